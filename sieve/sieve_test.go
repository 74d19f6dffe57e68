package sieve_test

import (
	"math"
	"math/rand"
	"slices"
	"testing"

	"katabasis/api"
	"katabasis/sieve"
)

func fall(steps, rest int, mul, add, div, bound string) api.Fall {
	return api.Fall{Steps: steps, Rest: rest, Line: api.Line{Mul: mul, Add: add, Div: div}, Bound: bound}
}

// TestSieveOfCollatz: the chapter's examples.
func TestSieveOfCollatz(t *testing.T) {
	falls := []api.Fall{fall(1, 0, "1", "0", "2", "0"), fall(2, 1, "3", "1", "4", "1"), fall(4, 3, "9", "5", "16", "0")}
	for _, c := range []struct {
		k     int
		falls []api.Fall
		left  []int
	}{
		{1, falls[:1], []int{1}}, {2, falls[:2], []int{3}}, {3, falls[:2], []int{3, 7}}, {4, falls, []int{7, 11, 15}},
	} {
		checkSieve(t, collatz(), c.k, c.falls, c.left)
	}
}

// TestSieveOfExtremes: maps whose rests all fall after one step, a map of which no word falls, and a bound that is below 0 and not whole.
func TestSieveOfExtremes(t *testing.T) {
	for k := 1; k <= 4; k++ {
		checkSieve(t, identity(3), k, []api.Fall{fall(1, 0, "1", "0", "3", "0"), fall(1, 1, "1", "-1", "3", "-1"), fall(1, 2, "1", "-2", "3", "-1")}, nil)
	}
	rising := api.Map{Mod: 3, Mul: []int{4, 4, 5}, Add: []int{0, -1, 2}}
	checkSieve(t, rising, 1, nil, []int{0, 1, 2})
	checkSieve(t, rising, 2, nil, []int{0, 1, 2, 3, 4, 5, 6, 7, 8})
	// -7 / 3 is rounded down to -3, and 8 / 3 to 2.
	checkSieve(t, api.Map{Mod: 5, Mul: []int{2, 7, 7, 7, 2}, Add: []int{-5, -2, 1, -1, -8}}, 1, []api.Fall{fall(1, 0, "2", "-5", "5", "-2"), fall(1, 4, "2", "-8", "5", "-3")}, []int{1, 2, 3})
	checkSieve(t, api.Map{Mod: 5, Mul: []int{2, 2, 7, 7, 2}, Add: []int{5, 8, 1, -1, -3}}, 1, []api.Fall{fall(1, 0, "2", "5", "5", "1"), fall(1, 1, "2", "8", "5", "2"), fall(1, 4, "2", "-3", "5", "-1")}, []int{2, 3})
}

// TestSieveByDefinition compares with the definition: maps with falls of all kinds, at each k.
func TestSieveByDefinition(t *testing.T) {
	for _, m := range maps() {
		for k := 1; k <= greatest(m, 5000); k++ {
			falls, left := sieveOf(m, k)
			checkSieve(t, m, k, falls, left)
		}
	}
	r := rand.New(rand.NewSource(41))
	for range 200 {
		m := randomMap(r)
		k := 1 + r.Intn(greatest(m, 5000))
		falls, left := sieveOf(m, k)
		checkSieve(t, m, k, falls, left)
	}
}

// TestSieveAtTheLimit compares with the definition where Mod^k is at most MaxRests and the next power is not: for Mod 2 and 4 it is MaxRests itself.
func TestSieveAtTheLimit(t *testing.T) {
	if restsOf(collatz(), 16) != api.MaxRests {
		t.Fatal("2^16 is not MaxRests")
	}
	list := []api.Map{
		collatz(),
		{Mod: 2, Mul: []int{1, 5}, Add: []int{-999998, 999999}},
		{Mod: 2, Mul: []int{999, 1}, Add: []int{999998, 1}},
		{Mod: 2, Mul: []int{3, 999}, Add: []int{-999998, -999999}},
		{Mod: 4, Mul: []int{1, 5, 3, 7}, Add: []int{0, 3, -2, -1}},
		{Mod: 4, Mul: []int{1, 9, 1, 15}, Add: []int{999996, -999997, 999998, 999999}},
	}
	r := rand.New(rand.NewSource(42))
	for range 8 {
		list = append(list, randomMap(r))
	}
	for _, m := range list {
		k := greatest(m, api.MaxRests)
		falls, left := sieveOf(m, k)
		checkSieve(t, m, k, falls, left)
		checkRefused(t, m, "1", k+1, api.ErrArg)
	}
}

// checkSieve compares a sieve, twice, with what it must be. The first lists are spoilt in between: results are new memory.
func checkSieve(t *testing.T, m api.Map, k int, falls []api.Fall, left []int) {
	t.Helper()
	given := copyOf(m)
	for range 2 {
		f, l, e := sieve.Sieve(given, k)
		if !slices.Equal(f, falls) || !slices.Equal(l, left) || e != api.OK {
			t.Fatalf("Sieve(%v, %d): %d falls and %d left (%.300v; %.300v), %d instead of %d and %d (%.300v; %.300v)", m, k, len(f), len(l), f, l, e, len(falls), len(left), falls, left)
		}
		if !equal(given, m) {
			t.Fatalf("Sieve has changed its argument %v to %v", m, given)
		}
		clear(f)
		clear(l)
	}
}

// checkRefused checks that both functions return an error, and zero values.
func checkRefused(t *testing.T, m api.Map, n string, k int, want api.Errno) {
	t.Helper()
	if f, l, e := sieve.Sieve(m, k); len(f) > 0 || len(l) > 0 || e != want {
		t.Errorf("Sieve(%v, %d): %.300v, %.300v, %d instead of %d", m, k, f, l, e, want)
	}
	checkFind(t, m, n, k, api.Fall{}, false, want)
}

func TestSieveRefuses(t *testing.T) {
	ks := []int{1, 2, 16, 0, -1, 17, math.MaxInt}
	for _, m := range wrongMaps() {
		for _, k := range ks {
			checkRefused(t, m, "7", k, api.ErrForm)
		}
	}
	for _, m := range irregular() {
		for _, k := range ks {
			checkRefused(t, m, "7", k, api.ErrArg)
		}
	}
}

// TestSieveOfLength: with 2^62 to 2^66 and with MaxInt, Mod^k does not fit an int, and might look like 0.
func TestSieveOfLength(t *testing.T) {
	for mod := 2; mod <= api.MaxMod; mod++ {
		m := identity(mod)
		most := greatest(m, api.MaxRests)
		for k := 1; k <= most; k++ {
			if _, _, e := sieve.Sieve(m, k); e != api.OK {
				t.Errorf("Sieve(%v, %d): %d", m, k, e)
			}
		}
		for k := most + 1; k < 140; k++ {
			checkRefused(t, m, "0", k, api.ErrArg)
		}
		for _, k := range []int{0, -1, -2, -16, -64, math.MinInt, math.MinInt + 1, 1 << 31, 1 << 32, 1<<32 + 1, math.MaxInt} {
			checkRefused(t, m, "0", k, api.ErrArg)
		}
	}
}
