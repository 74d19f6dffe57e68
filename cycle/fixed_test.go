package cycle_test

import (
	"math/big"
	"math/rand"
	"slices"
	"strings"
	"testing"

	"katabasis/api"
	"katabasis/cycle"
)

// checkFixed checks a call of Fixed, and that it leaves its arguments as they are.
func checkFixed(t *testing.T, m api.Map, w []int, want api.Frac, wantE api.Errno) {
	t.Helper()
	given, list := copyOf(m), slices.Clone(w)
	if x, e := cycle.Fixed(given, list); x != want || e != wantE {
		t.Errorf("Fixed(%v, %d rests %v): %v, %d instead of %v, %d", m, len(w), brief(w), x, e, want, wantE)
	}
	if !equal(given, m) || !slices.Equal(list, w) {
		t.Errorf("Fixed(%v, %v) has changed its arguments to %v and %v", m, brief(w), given, brief(list))
	}
}

// checkTurn checks a call of Turn, twice. The first list is spoilt in between: results are new memory.
func checkTurn(t *testing.T, m api.Map, w []int, want []api.Frac, wantE api.Errno) {
	t.Helper()
	given, list := copyOf(m), slices.Clone(w)
	for range 2 {
		xs, e := cycle.Turn(given, list)
		if !slices.Equal(xs, want) || e != wantE {
			t.Errorf("Turn(%v, %d rests %v): %d fractions %v, %d instead of %v, %d", m, len(w), brief(w), len(xs), brief(xs), e, brief(want), wantE)
		}
		clear(xs)
	}
	if !equal(given, m) || !slices.Equal(list, w) {
		t.Errorf("Turn(%v, %v) has changed its arguments to %v and %v", m, brief(w), given, brief(list))
	}
}

// checkWord compares Fixed and Turn with the definition: each further fraction of Turn is the step of its own rest from the one before.
func checkWord(t *testing.T, m api.Map, w []int) {
	t.Helper()
	x := fixedOf(m, w)
	checkFixed(t, m, w, fracOf(x), api.OK)
	var xs []api.Frac
	for range w {
		xs = append(xs, fracOf(x))
		x = mapped(m, restOf(x, m.Mod), x)
	}
	checkTurn(t, m, w, xs, api.OK)
}

// frac is the fraction of a string such as -3/5 or 7.
func frac(s string) api.Frac {
	top, bottom, found := strings.Cut(s, "/")
	if !found {
		bottom = "1"
	}
	return api.Frac{Num: top, Den: bottom}
}

func TestExamples(t *testing.T) {
	for _, c := range []struct {
		m    api.Map
		w    []int
		turn string
	}{
		{collatz(), []int{1, 0}, "1 2"}, {collatz(), []int{0, 1}, "2 1"}, {collatz(), []int{0}, "0"}, {collatz(), []int{1}, "-1"},
		{collatz(), []int{1, 1, 0}, "-5 -7 -10"}, {collatz(), []int{1, 0, 0}, "1/5 4/5 2/5"},
		// The denominator is less than 0 before it is reduced, and the fraction less than 0 (19 / -11), or greater than 0 (-7 / -3).
		{collatz(), []int{1, 1, 1, 0}, "-19/11 -23/11 -29/11 -38/11"}, {kin(5, -7), []int{1}, "7/3"},
		// Only the numerator is less than 0.
		{kin(3, -7), []int{1, 0, 0}, "-7/5 -28/5 -14/5"},
		// Fractions that have to be reduced, to whole numbers or to others.
		{kin(3, 5), []int{1, 0}, "5 10"}, {kin(3, 5), []int{1, 0, 0}, "1 4 2"}, {kin(3, 39), []int{1, 0, 0, 0}, "3 24 12 6"}, {kin(9, 5), []int{1, 0}, "-1 -2"},
		{kin(3, 25), []int{1, 0, 1, 0}, "25 50 25 50"}, {kin(7, 3), []int{1, 1, 1}, "-3/5 -3/5 -3/5"}, {kin(5, 9), []int{1, 0, 0, 0, 0}, "1/3 16/3 8/3 4/3 2/3"},
		// Words that are a shorter word several times.
		{collatz(), []int{1, 0, 1, 0}, "1 2 1 2"}, {collatz(), []int{0, 0, 0}, "0 0 0"}, {collatz(), []int{1, 0, 0, 1, 0, 0}, "1/5 4/5 2/5 1/5 4/5 2/5"},
		// n goes to n / 3, (4 n - 1) / 3 or (4 n + 1) / 3.
		{api.Map{Mod: 3, Mul: []int{1, 4, 4}, Add: []int{0, -1, 1}}, []int{1, 2}, "1/7 -1/7"},
	} {
		var xs []api.Frac
		for _, s := range strings.Fields(c.turn) {
			xs = append(xs, frac(s))
		}
		checkFixed(t, c.m, c.w, xs[0], api.OK)
		checkTurn(t, c.m, c.w, xs, api.OK)
	}
}

// TestOneRest: a word of one rest r leads Add[r] / (Mod - Mul[r]) to itself.
func TestOneRest(t *testing.T) {
	for _, m := range maps() {
		for r := range m.Mod {
			x := fracOf(big.NewRat(int64(m.Add[r]), int64(m.Mod-m.Mul[r])))
			checkFixed(t, m, []int{r}, x, api.OK)
			checkTurn(t, m, []int{r}, []api.Frac{x}, api.OK)
		}
	}
}

func TestShortWords(t *testing.T) {
	for _, m := range maps() {
		for length := 1; length <= 7 && (length == 1 || len(allWords(m.Mod, length)) <= 200); length++ {
			for _, w := range allWords(m.Mod, length) {
				checkWord(t, m, w)
			}
		}
	}
}

// TestLongWords: also words of as many rests as a word may have, one or several times the same shorter word.
func TestLongWords(t *testing.T) {
	r := rand.New(rand.NewSource(61))
	list := maps()
	for range 30 {
		list = append(list, randomMap(r))
	}
	for _, m := range list {
		checkWord(t, m, randomWord(r, m, api.MaxWord))
		checkWord(t, m, randomWord(r, m, api.MaxWord-1))
		checkWord(t, m, randomWord(r, m, 1+r.Intn(60)))
		checkWord(t, m, slices.Repeat([]int{r.Intn(m.Mod)}, api.MaxWord))
		checkWord(t, m, slices.Repeat(randomWord(r, m, 8), api.MaxWord/8))
	}
}

// TestGreatest: the longest words with the greatest Muls and Adds have the longest numbers, of some 600 digits, so that no result is too long.
func TestGreatest(t *testing.T) {
	for _, m := range []api.Map{
		kin(999, 999999), kin(999, -999999), kin(997, 999999),
		{Mod: 2, Mul: []int{999, 999}, Add: []int{-999998, 999999}},
		{Mod: 2, Mul: []int{999, 997}, Add: []int{999998, 999999}},
		{Mod: 11, Mul: slices.Repeat([]int{999}, 11), Add: []int{999999, 999998, 999997, 999996, 999995, 999994, 999993, 999992, 999991, 999990, 999989}},
	} {
		for i := range m.Add {
			for (m.Mul[i]*i+m.Add[i])%m.Mod != 0 {
				m.Add[i]--
			}
		}
		for _, w := range [][]int{slices.Repeat([]int{1}, api.MaxWord), append(make([]int, api.MaxWord-1), 1), slices.Repeat([]int{0, 1, 1, 0, 1}, api.MaxWord/5)} {
			checkWord(t, m, w)
		}
	}
	x, e := cycle.Fixed(kin(999, 999999), append(slices.Repeat([]int{1}, api.MaxWord-1), 0))
	if len(x.Den) < 590 || len(x.Num) < 590 || e != api.OK {
		t.Errorf("a fraction of %d and %d digits, %d", len(x.Num), len(x.Den), e)
	}
}

// checkRefused checks that a word is refused by Fixed and Turn.
func checkRefused(t *testing.T, m api.Map, w []int, want api.Errno) {
	t.Helper()
	checkFixed(t, m, w, api.Frac{}, want)
	checkTurn(t, m, w, nil, want)
}

// TestRefuses: maps that are not valid come before all else; a word that is none, or empty, is refused also if its map is not regular.
func TestRefuses(t *testing.T) {
	for _, m := range wrongMaps() {
		for _, w := range append(wrongWords(2), []int{0}, []int{1, 0}) {
			checkRefused(t, m, w, api.ErrForm)
		}
	}
	for _, m := range irregular() {
		for _, w := range append(wrongWords(m.Mod), []int{0}, []int{1, 0}, []int{0, 1, 1}, make([]int, api.MaxWord)) {
			checkRefused(t, m, w, api.ErrArg)
		}
	}
	for _, m := range maps() {
		for _, w := range wrongWords(m.Mod) {
			checkRefused(t, m, w, api.ErrArg)
		}
		for r := -2; r < api.MaxMod+3; r++ {
			if r < 0 || r >= m.Mod {
				checkRefused(t, m, []int{r}, api.ErrArg)
			}
		}
	}
}
