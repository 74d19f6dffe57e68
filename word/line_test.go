package word_test

import (
	"math/big"
	"math/rand"
	"slices"
	"strings"
	"testing"

	"katabasis/api"
	"katabasis/step"
	"katabasis/word"
)

// lineOf is the linear map of a word by the definition: P3.4 says what Mul and Div are, and from 0 the steps lead to Add / Div.
func lineOf(m api.Map, w []int) api.Line {
	mul, div := big.NewInt(1), power(m.Mod, len(w))
	for _, r := range w {
		mul.Mul(mul, big.NewInt(int64(m.Mul[r])))
	}
	add := along(m, w, new(big.Rat))
	add.Mul(add, new(big.Rat).SetInt(div))
	return api.Line{Mul: mul.String(), Add: add.RatString(), Div: div.String()}
}

// checkLine compares Line with the definition (P3.4 is part of it).
func checkLine(t *testing.T, m api.Map, w []int) api.Line {
	t.Helper()
	got, e := word.Line(m, w)
	if want := lineOf(m, w); got != want || e != api.OK {
		t.Errorf("Line(%v, %v): %v, %d, not %v", m, w, got, e, want)
	}
	return got
}

func TestLine(t *testing.T) {
	r := rand.New(rand.NewSource(3))
	for _, m := range maps() {
		checkLine(t, m, nil)
		for rest := range m.Mod {
			checkLine(t, m, []int{rest})
			checkLine(t, m, slices.Repeat([]int{rest}, api.MaxWord))
			for next := range m.Mod {
				checkLine(t, m, []int{rest, next})
			}
		}
		checkLine(t, m, randomWord(r, m, api.MaxWord-1))
		checkLine(t, m, randomWord(r, m, api.MaxWord))
	}
	for i := range 1500 {
		m := randomMap(r)
		checkLine(t, m, randomWord(r, m, r.Intn([]int{5, 20, api.MaxWord + 1}[i%3])))
	}
}

// TestLineExamples: linear maps are not reduced, and Add may be negative or 0.
func TestLineExamples(t *testing.T) {
	for _, c := range []struct {
		m    api.Map
		w    []int
		want api.Line
	}{
		{step.Collatz(), nil, api.Line{Mul: "1", Add: "0", Div: "1"}},
		{step.Collatz(), []int{0}, api.Line{Mul: "1", Add: "0", Div: "2"}},
		{step.Collatz(), []int{1}, api.Line{Mul: "3", Add: "1", Div: "2"}},
		{step.Collatz(), []int{0, 0, 0}, api.Line{Mul: "1", Add: "0", Div: "8"}},
		{step.Collatz(), []int{0, 1}, api.Line{Mul: "3", Add: "2", Div: "4"}},
		{step.Collatz(), []int{1, 0}, api.Line{Mul: "3", Add: "1", Div: "4"}},
		{step.Collatz(), []int{1, 0, 1}, api.Line{Mul: "9", Add: "7", Div: "8"}},
		{step.Collatz(), []int{1, 1, 0, 1}, api.Line{Mul: "27", Add: "23", Div: "16"}},
		{api.Map{Mod: 2, Mul: []int{4, 4}, Add: []int{-2, 2}}, []int{0, 0}, api.Line{Mul: "16", Add: "-12", Div: "4"}},
		{api.Map{Mod: 2, Mul: []int{4, 2}, Add: []int{-2, 2}}, []int{0, 1}, api.Line{Mul: "8", Add: "0", Div: "4"}},
		{api.Map{Mod: 2, Mul: []int{2, 2}, Add: []int{0, 0}}, []int{0, 1, 1}, api.Line{Mul: "8", Add: "0", Div: "8"}},
		{api.Map{Mod: 3, Mul: []int{2, 4, 4}, Add: []int{0, -1, 1}}, []int{1, 2, 0}, api.Line{Mul: "32", Add: "-2", Div: "27"}},
	} {
		if got, e := word.Line(c.m, c.w); got != c.want || e != api.OK {
			t.Errorf("Line(%v, %v): %v, %d, not %v", c.m, c.w, got, e, c.want)
		}
	}
}

// TestParts is P3.3: the linear map of two words, one after the other, leads where that of the first one and then that of the second one lead.
func TestParts(t *testing.T) {
	r := rand.New(rand.NewSource(4))
	for i := range 400 {
		m := randomMap(r)
		u, v := randomWord(r, m, r.Intn(1+api.MaxWord/2)), randomWord(r, m, r.Intn(1+api.MaxWord/2))
		if i%4 == 0 {
			u, v = u[:len(u)/20], v[:len(v)/20]
		}
		first, e1 := word.Line(m, u)
		second, e2 := word.Line(m, v)
		whole, e3 := word.Line(m, slices.Concat(u, v))
		if e1 != api.OK || e2 != api.OK || e3 != api.OK {
			t.Fatalf("%v, %v, %v: %d, %d, %d", m, u, v, e1, e2, e3)
		}
		for range 3 {
			x := new(big.Rat).SetFrac(value(t, randomNumber(r, 40)), big.NewInt(1+r.Int63n(1000)))
			if got, want := at(t, whole, x), at(t, second, at(t, first, x)); got.Cmp(want) != 0 {
				t.Errorf("%v, the words %v and %v: from %v to %v, not %v", m, u, v, x, got, want)
			}
		}
		div := new(big.Int).Mul(value(t, first.Div), value(t, second.Div))
		mul := new(big.Int).Mul(value(t, first.Mul), value(t, second.Mul))
		if whole.Div != div.String() || whole.Mul != mul.String() {
			t.Errorf("%v, the words %v and %v: %v, %v and %v", m, u, v, whole, first, second)
		}
	}
}

// TestLinear is P3.2: a number whose word it is is mapped as by Run.
func TestLinear(t *testing.T) {
	r := rand.New(rand.NewSource(5))
	for i := range 1200 {
		m, n, k := randomMap(r), randomNumber(r, []int{3, 20, 300, 1200}[i%4]), r.Intn([]int{10, 60, api.MaxWord + 1}[i%3])
		if i < 40*len(maps()) {
			m = maps()[i/40]
		}
		w, e1 := word.Word(m, n, k)
		line, e2 := word.Line(m, w)
		want, e3 := step.Run(m, n, k)
		if e1 != api.OK || e2 != api.OK || e3 != api.OK {
			t.Fatalf("%v, %d steps from %s: %d, %d, %d", m, k, short(n), e1, e2, e3)
		}
		if got, whole, e := word.Apply(line, n); got != want || !whole || e != api.OK {
			t.Errorf("%v, %d steps from %s: %s, %v, %d, not %s", m, k, short(n), short(got), whole, e, short(want))
		}
	}
}

// checkApply compares Apply with the definition.
func checkApply(t *testing.T, l api.Line, n string) {
	t.Helper()
	sum := new(big.Int).Mul(value(t, l.Mul), value(t, n))
	sum.Add(sum, value(t, l.Add))
	want, wantWhole, wantE := "", false, api.OK
	if div := value(t, l.Div); div.Sign() <= 0 {
		wantE = api.ErrArg
	} else if tooLong(sum) {
		wantE = api.ErrSize
	} else if quotient, left := new(big.Int).QuoRem(sum, div, new(big.Int)); left.Sign() == 0 {
		want, wantWhole = quotient.String(), true
	}
	if got, whole, e := word.Apply(l, n); got != want || whole != wantWhole || e != wantE {
		t.Errorf("Apply(%s n + %s / %s, %s): %s, %v, %d, not %s, %v, %d", short(l.Mul), short(l.Add), short(l.Div), short(n), short(got), whole, e, short(want), wantWhole, wantE)
	}
}

func TestApply(t *testing.T) {
	factors := []string{"0", "1", "-1", "2", "-3", "1000000000", half, "-" + half, nines, "-" + nines}
	for _, mul := range factors {
		for _, add := range []string{"0", "1", "-12", half, nines, "-" + nines} {
			for _, div := range []string{"-1", "0", "1", "2", "7", nines} {
				for _, n := range factors {
					checkApply(t, api.Line{Mul: mul, Add: add, Div: div}, n)
				}
			}
		}
	}
	for _, n := range samples {
		checkApply(t, api.Line{Mul: "9", Add: "5", Div: "8"}, n)
		checkApply(t, api.Line{Mul: "-2", Add: "-1", Div: "3"}, n)
		checkApply(t, api.Line{Mul: "1", Add: "0", Div: "1"}, n)
	}
	r := rand.New(rand.NewSource(6))
	for i := range 3000 {
		most := []int{2, 20, 300, api.MaxDigits}[i%4]
		mul, n, div := randomNumber(r, most), randomNumber(r, most), value(t, randomNumber(r, 1+r.Intn(most)))
		div.Abs(div).Add(div, big.NewInt(1))
		checkApply(t, api.Line{Mul: mul, Add: randomNumber(r, api.MaxDigits), Div: div.String()}, n)
		// An Add with which the sum is a multiple of Div, and not too long.
		sum := new(big.Int).Mul(div, value(t, randomNumber(r, 1+api.MaxDigits-len(div.String()))))
		add := sum.Sub(sum, new(big.Int).Mul(value(t, mul), value(t, n)))
		if !tooLong(add) && len(div.String()) < api.MaxDigits {
			checkApply(t, api.Line{Mul: mul, Add: add.String(), Div: div.String()}, n)
		}
	}
}

// TestApplyAtTheLimit: sums of exactly MaxDigits digits and of one digit more, from products that are far below, just below and up to twice too long.
func TestApplyAtTheLimit(t *testing.T) {
	limit := value(t, tens+"0")
	tried := 0
	for _, mul := range []string{"1", "2", "3", "999", "1000000007", nines[:999], nines[:1000], tens[:1001], half, nines} {
		for _, part := range []int64{0, 1, 500, 999, 1000, 1001, 1500, 1998, 1999, 2000} {
			// The product is about part / 1000 of the limit.
			product := new(big.Int).Mul(limit, big.NewInt(part))
			n := product.Div(product.Div(product, big.NewInt(1000)), value(t, mul))
			for _, d := range []int64{-1, 0, 1, 2} {
				tried += checkSumsAtTheLimit(t, mul, new(big.Int).Add(n, big.NewInt(d)))
			}
		}
	}
	if tried < 2000 {
		t.Errorf("%d sums were tried", tried)
	}
}

// checkSumsAtTheLimit tries each Add for which the sum is at a limit, with all signs, and returns how many sums it tried.
func checkSumsAtTheLimit(t *testing.T, mul string, n *big.Int) int {
	t.Helper()
	limit, tried := value(t, tens+"0"), 0
	for _, m := range []*big.Int{value(t, mul), new(big.Int).Neg(value(t, mul))} {
		for _, x := range []*big.Int{n, new(big.Int).Neg(n)} {
			for _, target := range []*big.Int{limit, new(big.Int).Neg(limit)} {
				for d := int64(-1); d <= 1; d++ {
					add := new(big.Int).Add(target, big.NewInt(d))
					add.Sub(add, new(big.Int).Mul(m, x))
					if tooLong(add) || tooLong(x) {
						continue
					}
					tried++
					for _, div := range []string{"1", "3"} {
						checkApply(t, api.Line{Mul: m.String(), Add: add.String(), Div: div}, x.String())
					}
				}
			}
		}
	}
	return tried
}

func TestApplyExamplesAtTheLimit(t *testing.T) {
	for _, c := range []struct {
		l     api.Line
		n     string
		want  string
		whole bool
		e     api.Errno
	}{
		{api.Line{Mul: "1", Add: "0", Div: "1"}, nines, nines, true, api.OK},
		{api.Line{Mul: "1", Add: "1", Div: "1"}, nines, "", false, api.ErrSize},
		{api.Line{Mul: "1", Add: "1", Div: "1"}, nines[1:] + "8", nines[1:] + "9", true, api.OK},
		{api.Line{Mul: "-1", Add: "-1", Div: "1"}, nines, "", false, api.ErrSize},
		// The sum is too long, and the quotient would not be.
		{api.Line{Mul: "2", Add: "0", Div: "2"}, nines, "", false, api.ErrSize},
		{api.Line{Mul: "1", Add: "1", Div: tens}, nines, "", false, api.ErrSize},
		// The product is too long, but the sum is not.
		{api.Line{Mul: "2", Add: "-1", Div: "1"}, half, nines, true, api.OK},
		{api.Line{Mul: "2", Add: "-1", Div: "3"}, half, strings.Repeat("3", api.MaxDigits), true, api.OK},
		{api.Line{Mul: "2", Add: "-1", Div: "2"}, half, "", false, api.OK},
		{api.Line{Mul: half, Add: "-1", Div: "1"}, "2", nines, true, api.OK},
		{api.Line{Mul: "-2", Add: "1", Div: "1"}, half, "-" + nines, true, api.OK},
		{api.Line{Mul: "-2", Add: "-1", Div: "1"}, "-" + half, nines, true, api.OK},
		{api.Line{Mul: "2", Add: "0", Div: "1"}, half, "", false, api.ErrSize},
		{api.Line{Mul: "2", Add: "-" + nines, Div: "1"}, nines, nines, true, api.OK},
		{api.Line{Mul: nines, Add: "-" + nines, Div: nines}, "2", "1", true, api.OK},
		{api.Line{Mul: "2", Add: "-" + nines[1:] + "8", Div: "1"}, nines, "", false, api.ErrSize},
		{api.Line{Mul: nines, Add: "-" + nines, Div: "1"}, nines, "", false, api.ErrSize},
	} {
		if got, whole, e := word.Apply(c.l, c.n); got != c.want || whole != c.whole || e != c.e {
			t.Errorf("Apply(%s n + %s / %s, %s): %s, %v, %d", short(c.l.Mul), short(c.l.Add), short(c.l.Div), short(c.n), short(got), whole, e)
		}
	}
}

// TestApplyDiv: a Div that is not greater than 0 is refused before anything is computed.
func TestApplyDiv(t *testing.T) {
	for _, div := range []string{"0", "-1", "-2", "-8", "-" + tens, "-" + nines} {
		for _, n := range []string{"0", "11", "-11", nines} {
			for _, mul := range []string{"0", "9", "-9", nines} {
				if got, whole, e := word.Apply(api.Line{Mul: mul, Add: "5", Div: div}, n); got != "" || whole || e != api.ErrArg {
					t.Errorf("Apply(%s n + 5 / %s, %s): %s, %v, %d", short(mul), short(div), short(n), short(got), whole, e)
				}
			}
		}
	}
}

// TestApplyForm: any of the four strings may be the one that is no number; Div of 0 and sums that are too long do not matter then.
func TestApplyForm(t *testing.T) {
	for _, s := range wrongNumbers {
		for _, good := range []string{"1", "0", "-3", nines} {
			for _, c := range []struct {
				l api.Line
				n string
			}{
				{api.Line{Mul: s, Add: good, Div: good}, good}, {api.Line{Mul: good, Add: s, Div: good}, good},
				{api.Line{Mul: good, Add: good, Div: s}, good}, {api.Line{Mul: good, Add: good, Div: good}, s},
				{api.Line{Mul: "0", Add: good, Div: "1"}, s}, {api.Line{Mul: "1", Add: "0", Div: "1"}, s}, {api.Line{Mul: s, Add: good, Div: "1"}, "0"},
			} {
				if got, whole, e := word.Apply(c.l, c.n); got != "" || whole || e != api.ErrForm {
					t.Errorf("Apply(%q n + %q / %q, %q): %s, %v, %d", short(c.l.Mul), short(c.l.Add), short(c.l.Div), short(c.n), short(got), whole, e)
				}
			}
		}
	}
	if got, whole, e := word.Apply(api.Line{}, ""); got != "" || whole || e != api.ErrForm {
		t.Errorf("Apply of nothing: %s, %v, %d", got, whole, e)
	}
}
