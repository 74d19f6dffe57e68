package word_test

import (
	"math/big"
	"math/rand"
	"slices"
	"testing"

	"katabasis/api"
	"katabasis/step"
	"katabasis/word"
)

// checkRest checks what Rest returns for a word of a regular map: a rest from 0 to Mod^k - 1 whose word this is. That it is the only one is what TestAllRests says.
func checkRest(t *testing.T, m api.Map, w []int) {
	t.Helper()
	r, d, e := word.Rest(m, w)
	if e != api.OK || d != power(m.Mod, len(w)).String() {
		t.Errorf("Rest(%v, %v): %s, %s, %d", m, w, r, d, e)
		return
	}
	n := value(t, r)
	if n.Sign() < 0 || n.Cmp(value(t, d)) >= 0 {
		t.Errorf("Rest(%v, %v): %s is no rest modulo %s", m, w, r, d)
	}
	if got, e := wordOf(t, m, n, len(w)); !slices.Equal(got, w) || e != api.OK {
		t.Errorf("Rest(%v, %v): %s, whose word is %v", m, w, r, got)
	}
}

func TestRest(t *testing.T) {
	r := rand.New(rand.NewSource(7))
	for _, m := range maps() {
		if !regular(m) {
			continue
		}
		for rest := range m.Mod {
			checkRest(t, m, []int{rest})
			checkRest(t, m, slices.Repeat([]int{rest}, api.MaxWord))
		}
		checkRest(t, m, randomWord(r, m, api.MaxWord-1))
		checkRest(t, m, randomWord(r, m, api.MaxWord))
	}
	for i := range 400 {
		m := randomRegular(r)
		checkRest(t, m, randomWord(r, m, r.Intn([]int{5, 20, api.MaxWord + 1}[i%3])))
	}
}

// TestAllRests is P3.1 for all rests of small powers: each word belongs to the one rest that Rest returns.
func TestAllRests(t *testing.T) {
	r := rand.New(rand.NewSource(8))
	list := slices.DeleteFunc(maps(), func(m api.Map) bool { return !regular(m) })
	for range 12 {
		list = append(list, randomRegular(r))
	}
	for _, m := range list {
		count := 1
		for k := 0; count <= 1500; k++ {
			for n := range count {
				checkBack(t, m, big.NewInt(int64(n)), k, n)
			}
			count *= m.Mod
		}
	}
}

// checkBack: the rest of the word of a number is that of the number.
func checkBack(t *testing.T, m api.Map, n *big.Int, k, want int) {
	t.Helper()
	w, e := wordOf(t, m, n, k)
	if e != api.OK {
		t.Fatalf("%v, a word of %d rests from %s: %d", m, k, n, e)
	}
	r, d, e := word.Rest(m, w)
	if r != big.NewInt(int64(want)).String() || d != power(m.Mod, k).String() || e != api.OK {
		t.Errorf("Rest(%v, %v): %s, %s, %d, not %d", m, w, r, d, e, want)
	}
}

// TestWordsAndRests is P3.1 for numbers of any length and sign: the word of a number is w if and only if its rest is that of w.
func TestWordsAndRests(t *testing.T) {
	r := rand.New(rand.NewSource(9))
	for i := range 400 {
		m, k := randomRegular(r), r.Intn([]int{6, 30, api.MaxWord + 1}[i%3])
		n := randomNumber(r, []int{3, 40, 600}[i/3%3])
		w, e := word.Word(m, n, k)
		if e != api.OK {
			t.Fatalf("Word(%v, %s, %d): %d", m, short(n), k, e)
		}
		rest, d, e := word.Rest(m, w)
		if e != api.OK || new(big.Int).Mod(value(t, n), value(t, d)).String() != rest {
			t.Errorf("%v, the word %v of %s: Rest %s, %s, %d", m, w, short(n), short(rest), short(d), e)
			continue
		}
		// Another number of the rest has the same word, and one of another rest has another word.
		far := new(big.Int).Mul(value(t, d), value(t, randomNumber(r, 300)))
		far.Add(far, value(t, n))
		if got, e := word.Word(m, far.String(), k); !slices.Equal(got, w) || e != api.OK {
			t.Errorf("%v, the words %v of %s and %v of %s", m, w, short(n), got, short(far.String()))
		}
		near := new(big.Int).Add(far, power(m.Mod, max(k-1, 0)))
		if got, e := word.Word(m, near.String(), k); k > 0 && slices.Equal(got, w) || e != api.OK {
			t.Errorf("%v, the word %v of %s and of %s", m, w, short(far.String()), short(near.String()))
		}
	}
}

func TestRestExamples(t *testing.T) {
	third := api.Map{Mod: 3, Mul: []int{2, 4, 4}, Add: []int{0, -1, 1}}
	for _, c := range []struct {
		m    api.Map
		w    []int
		r, d string
	}{
		{step.Collatz(), nil, "0", "1"}, {step.Collatz(), []int{0}, "0", "2"}, {step.Collatz(), []int{1}, "1", "2"},
		{step.Collatz(), []int{1, 0, 0}, "5", "8"}, {step.Collatz(), []int{0, 1, 1}, "6", "8"}, {step.Collatz(), []int{1, 1, 1, 0}, "7", "16"},
		{step.Collatz(), slices.Repeat([]int{1}, 20), "1048575", "1048576"}, {step.Collatz(), slices.Repeat([]int{0}, 20), "0", "1048576"},
		// 4, 5, 7, 9, 6; and 8, 11, 15.
		{third, []int{1, 2, 1, 0}, "4", "81"}, {third, []int{2, 2, 0}, "8", "27"},
	} {
		if r, d, e := word.Rest(c.m, c.w); r != c.r || d != c.d || e != api.OK {
			t.Errorf("Rest(%v, %v): %s, %s, %d, not %s, %s", c.m, c.w, r, d, e, c.r, c.d)
		}
	}
	all := power(2, api.MaxWord)
	want := new(big.Int).Sub(all, big.NewInt(1)).String()
	if r, d, e := word.Rest(step.Collatz(), slices.Repeat([]int{1}, api.MaxWord)); r != want || d != all.String() || e != api.OK {
		t.Errorf("Rest of %d ones: %s, %s, %d", api.MaxWord, r, d, e)
	}
}

// TestRestNotRegular: no word of a map that is not regular has a rest, not even the empty one; its linear map is another matter.
func TestRestNotRegular(t *testing.T) {
	for _, m := range []api.Map{
		{Mod: 2, Mul: []int{2, 3}, Add: []int{0, 1}}, {Mod: 2, Mul: []int{1, 4}, Add: []int{0, 4}}, {Mod: 2, Mul: []int{4, 4}, Add: []int{-2, 2}},
		{Mod: 3, Mul: []int{2, 4, 999}, Add: []int{0, -1, 0}}, {Mod: 4, Mul: []int{1, 3, 6, 5}, Add: []int{0, 1, 0, 1}},
		{Mod: 9, Mul: slices.Repeat([]int{6}, 9), Add: []int{0, 3, 6, 0, 3, 6, 0, 3, 6}}, {Mod: 12, Mul: slices.Repeat([]int{12}, 12), Add: make([]int, 12)},
	} {
		for _, w := range [][]int{nil, {0}, {1}, {0, 1, 1}, make([]int, api.MaxWord), make([]int, api.MaxWord+1), {-1}, {12}} {
			if r, d, e := word.Rest(m, w); r != "" || d != "" || e != api.ErrArg {
				t.Errorf("Rest(%v, %v): %s, %s, %d", m, w, r, d, e)
			}
		}
		checkLine(t, m, []int{0, 1, 1})
	}
}
