package sieve_test

import (
	"math/big"
	"math/rand"
	"slices"
	"testing"

	"katabasis/api"
	"katabasis/sieve"
	"katabasis/step"
	"katabasis/word"
)

// sieved calls Sieve, which must not fail.
func sieved(t *testing.T, m api.Map, k int) ([]api.Fall, []int) {
	t.Helper()
	falls, left, e := sieve.Sieve(m, k)
	if e != api.OK {
		t.Fatalf("Sieve(%v, %d): %d", m, k, e)
	}
	return falls, left
}

// comesBelow reports whether a number is less than itself after some steps, as step.Run says.
func comesBelow(t *testing.T, m api.Map, n *big.Int, steps int) bool {
	t.Helper()
	s, e := step.Run(m, n.String(), steps)
	if e != api.OK {
		t.Fatalf("Run(%v, %s, %d): %d", m, short(n.String()), steps, e)
	}
	return value(s).Cmp(n) < 0
}

// TestExact is P4.1: at the numbers of the fall's rest next to Bound, at Bound itself if it has this rest, and far away on both sides.
func TestExact(t *testing.T) {
	far := new(big.Int).Exp(big.NewInt(10), big.NewInt(1900), nil)
	exactly := 0
	for _, m := range maps() {
		falls, _ := sieved(t, m, greatest(m, 300))
		for _, f := range falls {
			bound, mod := value(f.Bound), value(f.Line.Div)
			// The greatest number of the rest that is not greater than the bound.
			n := new(big.Int).Sub(bound, new(big.Int).Mod(new(big.Int).Sub(bound, big.NewInt(int64(f.Rest))), mod))
			if n.Cmp(bound) == 0 {
				exactly++
			}
			for _, places := range []*big.Int{big.NewInt(0), big.NewInt(1), big.NewInt(-1), big.NewInt(2), far, new(big.Int).Neg(far)} {
				x := new(big.Int).Add(n, new(big.Int).Mul(places, mod))
				if got, want := comesBelow(t, m, x, f.Steps), x.Cmp(bound) > 0; got != want {
					t.Errorf("%v maps %s below itself: %v, but its fall is %v", m, short(x.String()), got, f)
				}
			}
		}
	}
	if exactly == 0 {
		t.Error("no number of a fall's rest was equal to its bound")
	}
}

// TestExactAroundBound is P4.1, at Bound itself and one more, by the fall that Find returns for them. (One more than Bound never has the rest of the same fall: it would fall by less than 1.)
func TestExactAroundBound(t *testing.T) {
	for _, m := range maps() {
		k := greatest(m, 300)
		falls, _ := sieved(t, m, k)
		for _, f := range falls {
			for more := range int64(2) {
				n := new(big.Int).Add(value(f.Bound), big.NewInt(more))
				found, ok, e := sieve.Find(m, n.String(), k)
				if e != api.OK {
					t.Fatalf("Find(%v, %v, %d): %d", m, n, k, e)
				}
				if got, want := ok && comesBelow(t, m, n, found.Steps), ok && n.Cmp(value(found.Bound)) > 0; got != want {
					t.Errorf("%v maps %v below itself: %v, but its fall is %v", m, n, got, found)
				}
			}
		}
	}
}

// TestAll is P4.2: each number has the rest of one fall, or one that is left. Find returns this fall.
func TestAll(t *testing.T) {
	r := rand.New(rand.NewSource(44))
	for _, m := range maps() {
		k := greatest(m, 2500)
		falls, left := sieved(t, m, k)
		numbers := append([]string{}, samples...)
		for range 30 {
			numbers = append(numbers, randomNumber(r, 6), randomNumber(r, 400))
		}
		for _, n := range numbers {
			rest := func(mod int) int { return int(new(big.Int).Mod(value(n), big.NewInt(int64(mod))).Int64()) }
			has := []api.Fall{}
			for _, f := range falls {
				if rest(restsOf(m, f.Steps)) == f.Rest {
					has = append(has, f)
				}
			}
			stays := slices.Contains(left, rest(restsOf(m, k)))
			if stays && len(has) > 0 || !stays && len(has) != 1 {
				t.Fatalf("%v, %d steps: %s is left: %v, and has the falls %v", m, k, short(n), stays, has)
			}
			if stays {
				has = append(has, api.Fall{})
			}
			checkFind(t, m, n, k, has[0], !stays, api.OK)
		}
	}
}

// TestLeft is P4.3: small numbers whose rest is left, and large ones, with each beginning of their words.
func TestLeft(t *testing.T) {
	for _, m := range maps() {
		k := greatest(m, 150)
		_, left := sieved(t, m, k)
		for _, rest := range left {
			for _, times := range []string{"0", "1", "-1", "-2", "-4000", tens[:500], "-" + tens[:500]} {
				n := new(big.Int).Mul(value(times), big.NewInt(int64(restsOf(m, k))))
				checkLeft(t, m, n.Add(n, big.NewInt(int64(rest))), k)
			}
		}
	}
}

func checkLeft(t *testing.T, m api.Map, n *big.Int, k int) {
	t.Helper()
	w, e := word.Word(m, n.String(), k)
	if e != api.OK {
		t.Fatalf("Word(%v, %s, %d): %d", m, short(n.String()), k, e)
	}
	for steps := 1; steps <= k; steps++ {
		l, e := word.Line(m, w[:steps])
		if e != api.OK {
			t.Fatalf("Line(%v, %v): %d", m, w[:steps], e)
		}
		more := new(big.Int).Sub(value(l.Mul), value(l.Div))
		if more.Sign() < 0 {
			t.Errorf("%v: %s is left, but its word %v falls", m, short(n.String()), w[:steps])
		}
		more.Add(more.Mul(more, n), value(l.Add))
		if got, want := comesBelow(t, m, n, steps), more.Sign() < 0; got != want {
			t.Errorf("%v, %d steps: %s is below itself: %v, but (Mul - Div) n + Add is %s", m, steps, short(n.String()), got, short(more.String()))
		}
	}
}

// TestCollatz is P4.4.
func TestCollatz(t *testing.T) {
	_, before := sieved(t, collatz(), 1)
	for k := 1; k < 16; k++ {
		_, left := sieved(t, collatz(), k+1)
		if !slices.Contains(before, 1<<k-1) {
			t.Errorf("2^%d - 1 is not left", k)
		}
		for _, rest := range left {
			if !slices.Contains(before, rest%(1<<k)) {
				t.Errorf("%d modulo 2^%d is left, but its rest modulo 2^%d is not", rest, k+1, k)
			}
		}
		before = left
	}
	if !slices.Contains(before, api.MaxRests-1) {
		t.Error("2^16 - 1 is not left")
	}
}

// TestFallsAgree: the linear map of a fall is that of its rest's word, of which no shorter beginning falls.
func TestFallsAgree(t *testing.T) {
	for _, m := range maps() {
		falls, _ := sieved(t, m, greatest(m, 2500))
		for _, f := range falls {
			w, e := word.Word(m, big.NewInt(int64(f.Rest)).String(), f.Steps)
			if e != api.OK {
				t.Fatalf("Word(%v, %d, %d): %d", m, f.Rest, f.Steps, e)
			}
			for steps := 1; steps <= f.Steps; steps++ {
				l, e := word.Line(m, w[:steps])
				if e != api.OK {
					t.Fatalf("Line(%v, %v): %d", m, w[:steps], e)
				}
				if falls := value(l.Mul).Cmp(value(l.Div)) < 0; falls != (steps == f.Steps) || falls && l != f.Line {
					t.Errorf("%v: %v, but the beginning of %d rests has the linear map %v", m, f, steps, l)
				}
			}
		}
	}
}
