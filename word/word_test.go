package word_test

import (
	"math"
	"math/big"
	"math/rand"
	"slices"
	"strings"
	"testing"

	"katabasis/api"
	"katabasis/step"
	"katabasis/word"
)

// checkWord compares Word with the definition.
func checkWord(t *testing.T, m api.Map, n string, k int) {
	t.Helper()
	want, wantE := wordOf(t, m, value(t, n), k)
	if got, e := word.Word(m, n, k); !slices.Equal(got, want) || e != wantE {
		t.Errorf("Word(%v, %s, %d): %v, %d, not %v, %d", m, short(n), k, got, e, want, wantE)
	}
}

func TestExamples(t *testing.T) {
	m := step.Collatz()
	line := api.Line{Mul: "9", Add: "5", Div: "8"}
	if got, e := word.Line(m, []int{1, 1, 0}); got != line || e != api.OK {
		t.Errorf("Line: %v, %d", got, e)
	}
	if r, d, e := word.Rest(m, []int{1, 1, 0}); r != "3" || d != "8" || e != api.OK {
		t.Errorf("Rest: %s, %s, %d", r, d, e)
	}
	if got, e := word.Word(m, "7", 4); !slices.Equal(got, []int{1, 1, 1, 0}) || e != api.OK {
		t.Errorf("Word: %v, %d", got, e)
	}
	if x, whole, e := word.Apply(line, "11"); x != "13" || !whole || e != api.OK {
		t.Errorf("Apply to 11: %s, %v, %d", x, whole, e)
	}
	if x, whole, e := word.Apply(line, "12"); x != "" || whole || e != api.OK {
		t.Errorf("Apply to 12: %s, %v, %d", x, whole, e)
	}
}

func TestWord(t *testing.T) {
	for _, m := range maps() {
		for _, n := range samples {
			for _, k := range []int{0, 1, 2, 5, 30} {
				checkWord(t, m, n, k)
			}
		}
		for _, n := range []string{"0", "-1", "27", "-136", "123456789012345678901234567890"} {
			checkWord(t, m, n, api.MaxWord-1)
			checkWord(t, m, n, api.MaxWord)
		}
	}
	r := rand.New(rand.NewSource(1))
	for i := range 2000 {
		checkWord(t, randomMap(r), randomNumber(r, []int{2, 15, 40, 300}[i%4]), r.Intn(40))
	}
}

// TestWordOfNegative: rests are from 0 on, also of negative numbers.
func TestWordOfNegative(t *testing.T) {
	third := api.Map{Mod: 3, Mul: []int{2, 4, 4}, Add: []int{0, -1, 1}}
	for _, c := range []struct {
		m    api.Map
		n    string
		want []int
	}{
		{step.Collatz(), "-1", []int{1, 1, 1, 1}},
		{step.Collatz(), "-5", []int{1, 1, 0, 1}},
		{step.Collatz(), "-17", []int{1, 1, 1, 1, 0, 1, 1, 1, 0, 0, 0, 1}},
		// -1, -1, ..; -2, -3, -2; -4, -5, -7, -9.
		{third, "-1", []int{2, 2, 2}},
		{third, "-2", []int{1, 0, 1}},
		{third, "-4", []int{2, 1, 2, 0}},
	} {
		if got, e := word.Word(c.m, c.n, len(c.want)); !slices.Equal(got, c.want) || e != api.OK {
			t.Errorf("Word(%v, %s, %d): %v, %d, not %v", c.m, c.n, len(c.want), got, e, c.want)
		}
	}
}

// TestWordAtTheLimit: the first numbers of an orbit must be valid, as many as the word has rests, and no further one.
func TestWordAtTheLimit(t *testing.T) {
	double := api.Map{Mod: 2, Mul: []int{4, 4}, Add: []int{0, 0}}
	for _, c := range []struct {
		m    api.Map
		n    string
		last int
	}{
		// A number of exactly MaxDigits digits, whose double has one digit more.
		{double, nines, 1}, {double, "-" + nines, 1}, {double, half, 1}, {double, "-" + half, 1},
		{double, "4" + nines[1:], 2}, {double, "-4" + nines[1:], 2}, {double, "24" + nines[2:], 3}, {double, "25" + tens[2:], 2},
		{step.Collatz(), "-" + nines, 1}, {step.Collatz(), strings.Repeat("6", api.MaxDigits-1) + "7", 1},
	} {
		checkWord(t, c.m, c.n, c.last)
		if got, e := word.Word(c.m, c.n, c.last); len(got) != c.last || e != api.OK {
			t.Errorf("Word(%v, %s, %d): %v, %d", c.m, short(c.n), c.last, got, e)
		}
		for _, k := range []int{c.last + 1, c.last + 2, api.MaxWord} {
			if got, e := word.Word(c.m, c.n, k); len(got) != 0 || e != api.ErrSize {
				t.Errorf("Word(%v, %s, %d): %v, %d", c.m, short(c.n), k, got, e)
			}
		}
	}
	r := rand.New(rand.NewSource(2))
	for range 150 {
		m, n := randomMap(r), nines[:api.MaxDigits-r.Intn(12)]
		for k := range 9 {
			checkWord(t, m, n, k)
		}
	}
}

// TestWordAtTheLimitOfSteps: the orbit is too long just after the longest word, or just before its end.
func TestWordAtTheLimitOfSteps(t *testing.T) {
	double := api.Map{Mod: 2, Mul: []int{4, 4}, Add: []int{0, 0}}
	in := new(big.Int).Rsh(value(t, nines), api.MaxWord-1).String()
	late := new(big.Int).Add(value(t, in), big.NewInt(1)).String()
	for _, sign := range []string{"", "-"} {
		if got, e := word.Word(double, sign+in, api.MaxWord); len(got) != api.MaxWord || e != api.OK {
			t.Errorf("Word(%s, %d): %d rests, %d", short(sign+in), api.MaxWord, len(got), e)
		}
		if got, e := word.Word(double, sign+late, api.MaxWord); len(got) != 0 || e != api.ErrSize {
			t.Errorf("Word(%s, %d): %d rests, %d", short(sign+late), api.MaxWord, len(got), e)
		}
		if got, e := word.Word(double, sign+late, api.MaxWord-1); len(got) != api.MaxWord-1 || e != api.OK {
			t.Errorf("Word(%s, %d): %d rests, %d", short(sign+late), api.MaxWord-1, len(got), e)
		}
	}
}

// TestWordTooLongOnTheWay: a number of the orbit is too long, and a later one would not be.
func TestWordTooLongOnTheWay(t *testing.T) {
	// An n that is 2 modulo 4 is mapped to 6 n, this to 3 n / 2, and this to itself.
	m := api.Map{Mod: 4, Mul: []int{1, 4, 24, 4}, Add: []int{0, 0, 0, 0}}
	n := "2" + nines[3:] + "98"
	for k, e := range []api.Errno{api.OK, api.OK, api.ErrSize, api.ErrSize, api.ErrSize} {
		want := []int{2}[:min(k, 1)]
		if e != api.OK {
			want = nil
		}
		if got, gotE := word.Word(m, n, k); !slices.Equal(got, want) || gotE != e {
			t.Errorf("Word(%d): %v, %d", k, got, gotE)
		}
	}
	if got, e := word.Word(m, "298", 4); !slices.Equal(got, []int{2, 0, 3, 3}) || e != api.OK {
		t.Errorf("Word(298, 4): %v, %d", got, e)
	}
}

// TestWordLengths: which lengths are out of range, whatever the orbit is.
func TestWordLengths(t *testing.T) {
	for _, m := range maps() {
		for _, n := range []string{"0", "-7", nines} {
			for _, k := range []int{-1, api.MaxWord + 1, -api.MaxWord, api.MaxOrbit, math.MinInt, math.MaxInt} {
				if got, e := word.Word(m, n, k); len(got) != 0 || e != api.ErrArg {
					t.Errorf("Word(%v, %s, %d): %v, %d", m, short(n), k, got, e)
				}
			}
			if got, e := word.Word(m, n, 0); len(got) != 0 || e != api.OK {
				t.Errorf("Word(%v, %s, 0): %v, %d", m, short(n), got, e)
			}
		}
	}
}

func TestWordForm(t *testing.T) {
	check := func(m api.Map, n string) {
		t.Helper()
		for _, k := range []int{0, 1, -1, api.MaxWord, api.MaxWord + 1} {
			if got, e := word.Word(m, n, k); len(got) != 0 || e != api.ErrForm {
				t.Errorf("Word(%v, %q, %d): %v, %d", m, short(n), k, got, e)
			}
		}
	}
	for _, m := range maps() {
		for _, n := range wrongNumbers {
			check(m, n)
		}
	}
	for _, m := range wrongMaps() {
		for _, n := range []string{"0", "-7", nines, ""} {
			check(m, n)
		}
	}
}

// wrongWords are lists that are no words of a map with this modulus: a wrong rest first, last, between, alone, or in a list that is too long.
func wrongWords(mod int) [][]int {
	list := [][]int{make([]int, api.MaxWord+1), make([]int, 5*api.MaxWord), slices.Repeat([]int{mod - 1}, api.MaxWord+1)}
	for _, r := range []int{-1, mod, mod + 1, -mod, math.MinInt, math.MaxInt} {
		long := make([]int, api.MaxWord)
		long[api.MaxWord-1] = r
		list = append(list, []int{r}, []int{r, 0, 1}, []int{0, r, 1}, []int{0, 1, r}, long, slices.Repeat([]int{r}, api.MaxWord+1))
	}
	return list
}

// checkWrongWord: a word is refused by all functions that take one.
func checkWrongWord(t *testing.T, m api.Map, w []int, want api.Errno) {
	t.Helper()
	if line, e := word.Line(m, w); line != (api.Line{}) || e != want {
		t.Errorf("Line(%v, %d rests %v): %v, %d", m, len(w), w[:min(len(w), 5)], line, e)
	}
	if r, d, e := word.Rest(m, w); r != "" || d != "" || e != want {
		t.Errorf("Rest(%v, %d rests %v): %s, %s, %d", m, len(w), w[:min(len(w), 5)], r, d, e)
	}
}

func TestWrongWords(t *testing.T) {
	for _, m := range maps() {
		for _, w := range wrongWords(m.Mod) {
			checkWrongWord(t, m, w, api.ErrArg)
		}
	}
	for mod := 2; mod <= api.MaxMod; mod++ {
		m := identity(mod)
		for r := -2; r < api.MaxMod+3; r++ {
			if r < 0 || r >= mod {
				checkWrongWord(t, m, []int{r}, api.ErrArg)
			} else if line, e := word.Line(m, []int{r}); e != api.OK || line.Mul != "1" {
				t.Errorf("Line(%v, %d): %v, %d", m, r, line, e)
			}
		}
	}
}

// TestWrongMaps: a map is refused before its word is looked at.
func TestWrongMaps(t *testing.T) {
	for _, m := range wrongMaps() {
		for _, w := range append(wrongWords(2), nil, []int{}, []int{0}, []int{1, 0}) {
			checkWrongWord(t, m, w, api.ErrForm)
		}
	}
}

// TestArguments: arguments are not changed, and what was returned does not change what is returned later (R5, R6); a nil word is an empty one (R4).
func TestArguments(t *testing.T) {
	for _, m := range append(maps(), wrongMaps()...) {
		before, w := copyOf(m), []int{1, 0, 1, 1, -1}
		for range 2 {
			got, _ := word.Word(m, "27", 50)
			clear(got)
			word.Line(m, w)
			word.Line(m, w[:4])
			word.Rest(m, w)
			word.Rest(m, w[:4])
		}
		if !equal(m, before) || !slices.Equal(w, []int{1, 0, 1, 1, -1}) {
			t.Errorf("%v has become %v, the word %v", before, m, w)
		}
	}
	a, e1 := word.Word(step.Collatz(), "7", 4)
	b, e2 := word.Word(step.Collatz(), "7", 4)
	a[0], a[3] = 9, 9
	if e1 != api.OK || e2 != api.OK || !slices.Equal(b, []int{1, 1, 1, 0}) {
		t.Errorf("Word, called twice: %v, %d, %d", b, e1, e2)
	}
	for _, m := range maps() {
		l1, e1 := word.Line(m, nil)
		l2, e2 := word.Line(m, []int{})
		r1, d1, e3 := word.Rest(m, nil)
		r2, d2, e4 := word.Rest(m, []int{})
		if l1 != l2 || e1 != e2 || r1 != r2 || d1 != d2 || e3 != e4 {
			t.Errorf("%v: a nil word and an empty word differ: %v, %v, %s, %s, %s, %s", m, l1, l2, r1, r2, d1, d2)
		}
	}
}
