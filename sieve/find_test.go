package sieve_test

import (
	"math"
	"math/big"
	"math/rand"
	"testing"

	"katabasis/api"
	"katabasis/sieve"
)

// checkFind checks a call of Find.
func checkFind(t *testing.T, m api.Map, n string, k int, fall api.Fall, found bool, want api.Errno) {
	t.Helper()
	given := copyOf(m)
	f, ok, e := sieve.Find(given, n, k)
	if f != fall || ok != found || e != want {
		t.Errorf("Find(%v, %s, %d): %v, %v, %d instead of %v, %v, %d", m, short(n), k, f, ok, e, fall, found, want)
	}
	if !equal(given, m) {
		t.Errorf("Find has changed its argument %v to %v", m, given)
	}
}

func TestFindOfCollatz(t *testing.T) {
	for _, c := range []struct {
		n     string
		k     int
		fall  api.Fall
		found bool
	}{
		{"0", 1, fall(1, 0, "1", "0", "2", "0"), true}, {"-8", 16, fall(1, 0, "1", "0", "2", "0"), true},
		{"1", 1, api.Fall{}, false}, {"1", 2, fall(2, 1, "3", "1", "4", "1"), true}, {"-3", 2, fall(2, 1, "3", "1", "4", "1"), true},
		{"3", 3, api.Fall{}, false}, {"19", 4, fall(4, 3, "9", "5", "16", "0"), true}, {"-13", 9, fall(4, 3, "9", "5", "16", "0"), true},
		{"7", 6, api.Fall{}, false}, {"7", 7, fall(7, 7, "81", "73", "128", "1"), true},
		{"27", 16, api.Fall{}, false}, {"-1", 16, api.Fall{}, false}, {"65535", 16, api.Fall{}, false},
		{"1" + tens[1:], 16, fall(1, 0, "1", "0", "2", "0"), true}, {nines, 16, api.Fall{}, false}, {"-" + nines, 16, fall(2, 1, "3", "1", "4", "1"), true},
	} {
		checkFind(t, collatz(), c.n, c.k, c.fall, c.found, api.OK)
	}
}

// TestFindByDefinition compares with the definition, for numbers of up to MaxDigits digits and of both signs.
func TestFindByDefinition(t *testing.T) {
	r := rand.New(rand.NewSource(43))
	list := maps()
	for range 40 {
		list = append(list, randomMap(r))
	}
	for _, m := range list {
		most := greatest(m, api.MaxRests)
		for _, k := range []int{1, 1 + r.Intn(most), most} {
			numbers := append([]string{}, samples...)
			for range 10 {
				numbers = append(numbers, randomNumber(r, 12), randomNumber(r, 300))
			}
			for _, n := range numbers {
				f, ok := fallOf(m, new(big.Int).Mod(value(n), big.NewInt(int64(restsOf(m, k)))), k)
				checkFind(t, m, n, k, f, ok, api.OK)
			}
		}
	}
}

// TestFindOfEachRest: for each rest of a sieve, Find says the same.
func TestFindOfEachRest(t *testing.T) {
	for _, m := range maps() {
		k := greatest(m, 1100)
		for rest := range restsOf(m, k) {
			n := big.NewInt(int64(rest))
			f, ok := fallOf(m, n, k)
			checkFind(t, m, n.String(), k, f, ok, api.OK)
			n.Sub(n, big.NewInt(int64(3*restsOf(m, k))))
			checkFind(t, m, n.String(), k, f, ok, api.OK)
		}
	}
}

func TestFindRefuses(t *testing.T) {
	for _, n := range wrongNumbers {
		for _, k := range []int{1, 16, 0, -1, 17, math.MinInt, math.MaxInt} {
			checkFind(t, collatz(), n, k, api.Fall{}, false, api.ErrForm)
			checkFind(t, irregular()[0], n, k, api.Fall{}, false, api.ErrForm)
			checkFind(t, wrongMaps()[0], n, k, api.Fall{}, false, api.ErrForm)
		}
	}
	for _, n := range samples {
		for _, k := range []int{0, -1, 17, 64, math.MinInt, math.MaxInt} {
			checkFind(t, collatz(), n, k, api.Fall{}, false, api.ErrArg)
		}
		checkFind(t, irregular()[0], n, 1, api.Fall{}, false, api.ErrArg)
		checkFind(t, wrongMaps()[1], n, 1, api.Fall{}, false, api.ErrForm)
	}
}
