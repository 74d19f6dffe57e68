package step_test

import (
	"math"
	"math/big"
	"math/rand"
	"slices"
	"strings"
	"testing"

	"katabasis/api"
	"katabasis/num"
	"katabasis/step"
)

// The greatest and the least sizes of numbers of exactly MaxDigits digits.
var (
	nines = strings.Repeat("9", api.MaxDigits)
	tens  = "1" + strings.Repeat("0", api.MaxDigits-1)
)

// wrongNumbers are strings that are no valid numbers.
var wrongNumbers = []string{"", "-", "-0", "+1", "007", " 1", "1.0", "x", "\uff11", nines + "9", "-" + nines + "9", "0" + nines[1:]}

// samples are numbers around 0, around the sizes of machine words, and of MaxDigits digits.
var samples = []string{
	"0", "1", "-1", "2", "-2", "3", "-3", "5", "7", "-7", "11", "12", "13", "-12", "-13", "27", "-17", "999999", "-1000000",
	"4294967295", "-4294967296", "9999999999999", "-99999999999999", "99999999999999", "-100000000000000",
	"999999999999999", "-999999999999999", "1000000000000000", "-1000000000000000", "9999999999999999", "-9999999999999999",
	"9223372036854775807", "-9223372036854775808", "18446744073709551615", "-18446744073709551616",
	nines[:100], "-" + nines[:1000], "1" + nines[1:], "-1" + nines[1:], tens, "-" + tens, nines, "-" + nines,
}

// maps are valid maps: regular or not, with Adds below 0, and with Mod, Mul and Add at their limits.
func maps() []api.Map {
	return []api.Map{
		{Mod: 2, Mul: []int{1, 3}, Add: []int{0, 1}},
		{Mod: 2, Mul: []int{1, 3}, Add: []int{0, -1}},
		{Mod: 2, Mul: []int{1, 999}, Add: []int{0, 999999}},
		{Mod: 2, Mul: []int{999, 1}, Add: []int{-999998, -999999}},
		{Mod: 2, Mul: []int{998, 999}, Add: []int{999998, -999999}},
		{Mod: 2, Mul: []int{4, 4}, Add: []int{-2, 2}},
		{Mod: 2, Mul: []int{2, 2}, Add: []int{2, 2}},
		{Mod: 3, Mul: []int{2, 4, 4}, Add: []int{0, -1, 1}},
		{Mod: 3, Mul: []int{3, 3, 3}, Add: []int{-3, 0, 3}},
		{Mod: 12, Mul: []int{1, 5, 7, 11, 999, 1, 2, 3, 4, 6, 8, 12}, Add: []int{0, 7, 10, 3, 0, 7, 0, 3, 4, 6, 4, 0}},
		{Mod: 12, Mul: slices.Repeat([]int{12}, 12), Add: slices.Repeat([]int{-999996}, 12)},
	}
}

// short cuts a string, so that a message can be read.
func short(s string) string {
	if len(s) <= 60 {
		return s
	}
	return s[:30] + ".." + s[len(s)-28:]
}

// randomMap returns a valid map.
func randomMap(r *rand.Rand) api.Map {
	m := api.Map{Mod: 2 + r.Intn(api.MaxMod-1)}
	for rest := range m.Mod {
		mul := 1 + r.Intn([]int{3, 20, api.MaxMul}[r.Intn(3)])
		most := []int{1, 30, api.MaxAdd - 12}[r.Intn(3)]
		add := r.Intn(2*most+1) - most
		for (mul*rest+add)%m.Mod != 0 {
			add++
		}
		m.Mul, m.Add = append(m.Mul, mul), append(m.Add, add)
	}
	return m
}

// randomNumber returns a number of at most so many digits.
func randomNumber(r *rand.Rand, most int) string {
	n := new(big.Int).Rand(r, new(big.Int).Exp(big.NewInt(10), big.NewInt(int64(1+r.Intn(most))), nil))
	if r.Intn(2) == 0 {
		n.Neg(n)
	}
	return n.String()
}

func value(t *testing.T, s string) *big.Int {
	t.Helper()
	v, ok := new(big.Int).SetString(s, 10)
	if !ok || v.String() != s {
		t.Fatalf("%q is not the string of a number", short(s))
	}
	return v
}

// text is what a function must return for a number: its string, or ErrSize.
func text(v *big.Int) (string, api.Errno) {
	s := v.String()
	if len(strings.TrimPrefix(s, "-")) > api.MaxDigits {
		return "", api.ErrSize
	}
	return s, api.OK
}

// rest is the rest of a number modulo Mod; Mod of package big is never negative.
func rest(m api.Map, n *big.Int) int {
	return int(new(big.Int).Mod(n, big.NewInt(int64(m.Mod))).Int64())
}

// mapped is the number to which n is mapped, straight by the definition.
func mapped(t *testing.T, m api.Map, n *big.Int) *big.Int {
	t.Helper()
	r := rest(m, n)
	product := new(big.Int).Mul(big.NewInt(int64(m.Mul[r])), n)
	product.Add(product, big.NewInt(int64(m.Add[r])))
	result, left := product.QuoRem(product, big.NewInt(int64(m.Mod)), new(big.Int))
	if left.Sign() != 0 {
		t.Fatalf("%v does not map %s to a whole number", m, short(n.String()))
	}
	return result
}

// orbit is the first k + 1 numbers of an orbit, or ErrSize, by the definition.
func orbit(t *testing.T, m api.Map, n string, k int) ([]string, api.Errno) {
	t.Helper()
	numbers := []string{n}
	v := value(t, n)
	for range k {
		v = mapped(t, m, v)
		s, e := text(v)
		if e != api.OK {
			return nil, e
		}
		numbers = append(numbers, s)
	}
	return numbers, api.OK
}

func copyOf(m api.Map) api.Map {
	return api.Map{Mod: m.Mod, Mul: slices.Clone(m.Mul), Add: slices.Clone(m.Add)}
}

func equal(a, b api.Map) bool {
	return a.Mod == b.Mod && slices.Equal(a.Mul, b.Mul) && slices.Equal(a.Add, b.Add)
}

// checkStep compares Step with the definition.
func checkStep(t *testing.T, m api.Map, n string) {
	t.Helper()
	want, wantE := text(mapped(t, m, value(t, n)))
	if got, e := step.Step(m, n); got != want || e != wantE {
		t.Errorf("Step(%v, %s): %s, %d, not %s, %d", m, short(n), short(got), e, short(want), wantE)
	}
}

// near returns the numbers that a rest of a map leads closest to a target.
func near(m api.Map, r int, target *big.Int) []*big.Int {
	n := new(big.Int).Mul(target, big.NewInt(int64(m.Mod)))
	n.Sub(n, big.NewInt(int64(m.Add[r])))
	n.Div(n, big.NewInt(int64(m.Mul[r])))
	numbers := []*big.Int{}
	for d := -2 * m.Mod; d <= 2*m.Mod; d++ {
		numbers = append(numbers, new(big.Int).Add(n, big.NewInt(int64(d))))
	}
	return numbers
}

func TestStep(t *testing.T) {
	for _, m := range maps() {
		for _, n := range samples {
			checkStep(t, m, n)
		}
	}
	r := rand.New(rand.NewSource(1))
	for i := range 5000 {
		checkStep(t, randomMap(r), randomNumber(r, []int{3, 14, 20, 100, api.MaxDigits}[i%5]))
	}
}

// TestStepAtTheLimit: numbers that are mapped to those of exactly MaxDigits digits, and of one digit more.
func TestStepAtTheLimit(t *testing.T) {
	r := rand.New(rand.NewSource(2))
	list := maps()
	for range 10 {
		list = append(list, randomMap(r))
	}
	valid, long := 0, 0
	for _, limit := range []string{tens + "0", "-" + tens + "0"} {
		for _, m := range list {
			for rest := range m.Mod {
				for _, n := range near(m, rest, value(t, limit)) {
					s, e := text(n)
					if e != api.OK {
						continue
					}
					checkStep(t, m, s)
					if _, e := step.Step(m, s); e == api.OK {
						valid++
					} else {
						long++
					}
				}
			}
		}
	}
	if valid < 500 || long < 500 {
		t.Errorf("%d results are valid, %d are not", valid, long)
	}
}

func TestStepExamplesAtTheLimit(t *testing.T) {
	collatz, six, half := step.Collatz(), strings.Repeat("6", api.MaxDigits), "5"+tens[2:]+"0"
	down := api.Map{Mod: 2, Mul: []int{4, 4}, Add: []int{-2, -2}}
	up := api.Map{Mod: 2, Mul: []int{4, 4}, Add: []int{2, 2}}
	for _, c := range []struct {
		m       api.Map
		n, want string
		e       api.Errno
	}{
		// Mul * n is too long, but the result is not.
		{collatz, six[1:] + "5", nines[1:] + "8", api.OK},
		{collatz, six[1:] + "7", "", api.ErrSize},
		{collatz, "-" + six[1:] + "7", "-1" + strings.Repeat("0", api.MaxDigits), api.ErrSize},
		{collatz, "-" + six[1:] + "5", "-" + nines[1:] + "7", api.OK},
		{collatz, nines, "", api.ErrSize},
		{collatz, nines[1:] + "8", "4" + nines[1:], api.OK},
		// Mul times the quotient is too long, but the result is not.
		{down, half, nines, api.OK},
		{up, "-" + half, "-" + nines, api.OK},
		{up, half, "", api.ErrSize},
		{down, "-" + half, "", api.ErrSize},
	} {
		if c.e != api.OK {
			c.want = ""
		}
		if got, e := step.Step(c.m, c.n); got != c.want || e != c.e {
			t.Errorf("Step(%v, %s): %s, %d, not %s, %d", c.m, short(c.n), short(got), e, short(c.want), c.e)
		}
	}
}

func TestRun(t *testing.T) {
	r := rand.New(rand.NewSource(3))
	for i := range 400 {
		m, n, k := randomMap(r), randomNumber(r, []int{3, 20, 300, api.MaxDigits}[i%4]), r.Intn(60)
		if i < 4*len(maps()) {
			m = maps()[i/4]
		}
		numbers, wantE := orbit(t, m, n, k)
		want := ""
		if wantE == api.OK {
			want = numbers[k]
		}
		if got, e := step.Run(m, n, k); got != want || e != wantE {
			t.Errorf("Run(%v, %s, %d): %s, %d, not %s, %d", m, short(n), k, short(got), e, short(want), wantE)
		}
		if got, e := step.Orbit(m, n, k); !slices.Equal(got, numbers) || e != wantE {
			t.Errorf("Orbit(%v, %s, %d): %d numbers, %d", m, short(n), k, len(got), e)
		}
	}
}

// TestNoSteps: after 0 steps every number is itself.
func TestNoSteps(t *testing.T) {
	for _, m := range maps() {
		for _, n := range samples {
			if got, e := step.Run(m, n, 0); got != n || e != api.OK {
				t.Errorf("Run(%v, %s, 0): %s, %d", m, short(n), short(got), e)
			}
			if got, e := step.Orbit(m, n, 0); !slices.Equal(got, []string{n}) || e != api.OK {
				t.Errorf("Orbit(%v, %s, 0): %d numbers, %d", m, short(n), len(got), e)
			}
		}
	}
}

// TestParts is P2.1.
func TestParts(t *testing.T) {
	r := rand.New(rand.NewSource(4))
	for i := range 600 {
		m, n, k, l := randomMap(r), randomNumber(r, []int{3, 20, 1000}[i%3]), r.Intn(40), r.Intn(40)
		whole, e := step.Run(m, n, k+l)
		half, e1 := step.Run(m, n, k)
		if e1 != api.OK {
			if e != e1 {
				t.Errorf("Run(%v, %s, %d): %d, but of %d more %d", m, short(n), k, e1, l, e)
			}
			continue
		}
		if got, e2 := step.Run(m, half, l); got != whole || e2 != e {
			t.Errorf("Run(%v, %s, %d + %d): %s, %d, but in parts %s, %d", m, short(n), k, l, short(whole), e, short(got), e2)
		}
	}
}

// TestAlike is P2.2.
func TestAlike(t *testing.T) {
	r := rand.New(rand.NewSource(5))
	for i := range 400 {
		m, k := randomMap(r), r.Intn(25)
		n, d := value(t, randomNumber(r, []int{3, 20, 300}[i%3])), value(t, randomNumber(r, []int{1, 20, 300}[i/3%3]))
		period := new(big.Int).Exp(big.NewInt(int64(m.Mod)), big.NewInt(int64(k)), nil)
		other := new(big.Int).Add(n, period.Mul(period, d))
		a, e1 := step.Orbit(m, n.String(), k)
		b, e2 := step.Orbit(m, other.String(), k)
		if e1 != api.OK || e2 != api.OK {
			t.Fatalf("Orbit(%v, ..): %d, %d", m, e1, e2)
		}
		for j := range k {
			x, y := rest(m, value(t, a[j])), rest(m, value(t, b[j]))
			if x != y {
				t.Fatalf("%v, %d steps from %s and %s: the rests %d and %d after %d steps", m, k, n, other, x, y, j)
			}
			d.Mul(d, big.NewInt(int64(m.Mul[x])))
		}
		if got := new(big.Int).Sub(value(t, b[k]), value(t, a[k])); got.Cmp(d) != 0 {
			t.Errorf("%v, %d steps from %s and %s: the difference is %s, not %s", m, k, n, other, got, d)
		}
	}
}

// TestTooLongOnTheWay: a number of the orbit that is too long is an error, even if the last one would not be.
func TestTooLongOnTheWay(t *testing.T) {
	// An n that is 2 modulo 4 is mapped to 6 n, this to 3 n / 2, and this to itself.
	m := api.Map{Mod: 4, Mul: []int{1, 4, 24, 4}, Add: []int{0, 0, 0, 0}}
	n := "2" + nines[3:] + "98"
	for k, e := range []api.Errno{api.OK, api.ErrSize, api.ErrSize, api.ErrSize, api.ErrSize} {
		want := ""
		if k == 0 {
			want = n
		}
		if got, gotE := step.Run(m, n, k); got != want || gotE != e {
			t.Errorf("Run(%d): %s, %d", k, short(got), gotE)
		}
		if got, gotE := step.Orbit(m, n, k); len(got) != len(want)/len(n) || gotE != e {
			t.Errorf("Orbit(%d): %d numbers, %d", k, len(got), gotE)
		}
	}
	if steps, x, e := step.Falls(m, n, api.MaxSteps); steps != 0 || x != "" || e != api.ErrSize {
		t.Errorf("Falls: %d, %s, %d", steps, short(x), e)
	}
	if got, e := step.Run(m, "298", 4); got != "447" || e != api.OK {
		t.Errorf("Run(298, 4): %s, %d", got, e)
	}
}

func TestExamples(t *testing.T) {
	want := strings.Fields("7 11 17 26 13 20")
	if got, e := step.Orbit(step.Collatz(), "7", 5); !slices.Equal(got, want) || e != api.OK {
		t.Errorf("Orbit: %v, %d", got, e)
	}
	if steps, x, e := step.Falls(step.Collatz(), "7", 7); steps != 7 || x != "5" || e != api.OK {
		t.Errorf("Falls: %d, %s, %d", steps, x, e)
	}
	if got, e := step.Step(step.Collatz(), "-7"); got != "-10" || e != api.OK {
		t.Errorf("Step(-7): %s, %d", got, e)
	}
	if got, e := step.Run(step.Collatz(), "-17", 11); got != "-17" || e != api.OK {
		t.Errorf("Run(-17, 11): %s, %d", got, e)
	}
}

// TestMostSteps: orbits of the greatest lengths.
func TestMostSteps(t *testing.T) {
	successor := api.Map{Mod: 2, Mul: []int{2, 2}, Add: []int{2, 2}}
	if got, e := step.Run(successor, "-5", api.MaxSteps); got != "19995" || e != api.OK {
		t.Errorf("Run: %s, %d", got, e)
	}
	numbers, e := step.Orbit(successor, "-5", api.MaxOrbit)
	if len(numbers) != api.MaxOrbit+1 || e != api.OK || numbers[api.MaxOrbit] != "995" {
		t.Errorf("Orbit: %d numbers, %d", len(numbers), e)
	}
	if steps, x, e := step.Falls(successor, "-5", api.MaxSteps); steps != 0 || x != "" || e != api.ErrNone {
		t.Errorf("Falls: %d, %s, %d", steps, x, e)
	}
	n := "1" + nines[:1500]
	want := value(t, n)
	for range api.MaxSteps {
		want = mapped(t, step.Collatz(), want)
	}
	if got, e := step.Run(step.Collatz(), n, api.MaxSteps); got != want.String() || e != api.OK {
		t.Errorf("Run: %s, %d, not %s", short(got), e, short(want.String()))
	}
}

// counts calls a function with counts that are out of range.
func counts(least, most int, call func(k int)) {
	for _, k := range []int{least - 1, most + 1, math.MinInt, math.MaxInt, -api.MaxSteps} {
		call(k)
	}
}

func TestCountsOutOfRange(t *testing.T) {
	m := step.Collatz()
	for _, n := range []string{"1", "-7", nines} {
		counts(0, api.MaxSteps, func(k int) {
			if got, e := step.Run(m, n, k); got != "" || e != api.ErrArg {
				t.Errorf("Run(%s, %d): %s, %d", short(n), k, short(got), e)
			}
		})
		counts(0, api.MaxOrbit, func(k int) {
			if got, e := step.Orbit(m, n, k); len(got) != 0 || e != api.ErrArg {
				t.Errorf("Orbit(%s, %d): %d numbers, %d", short(n), k, len(got), e)
			}
		})
		counts(1, api.MaxSteps, func(k int) {
			if steps, x, e := step.Falls(m, n, k); steps != 0 || x != "" || e != api.ErrArg {
				t.Errorf("Falls(%s, %d): %d, %s, %d", short(n), k, steps, short(x), e)
			}
		})
	}
}

// checkForm: a map and a number, one of which is not valid, are refused, whatever the count is.
func checkForm(t *testing.T, m api.Map, n string) {
	t.Helper()
	if got, e := step.Step(m, n); got != "" || e != api.ErrForm {
		t.Errorf("Step(%v, %q): %q, %d", m, short(n), short(got), e)
	}
	for _, k := range []int{0, 1, -1, api.MaxSteps + 1} {
		if got, e := step.Run(m, n, k); got != "" || e != api.ErrForm {
			t.Errorf("Run(%v, %q, %d): %q, %d", m, short(n), k, short(got), e)
		}
		if got, e := step.Orbit(m, n, k); len(got) != 0 || e != api.ErrForm {
			t.Errorf("Orbit(%v, %q, %d): %d numbers, %d", m, short(n), k, len(got), e)
		}
		if steps, x, e := step.Falls(m, n, k); steps != 0 || x != "" || e != api.ErrForm {
			t.Errorf("Falls(%v, %q, %d): %d, %q, %d", m, short(n), k, steps, short(x), e)
		}
	}
}

func TestForm(t *testing.T) {
	for _, n := range wrongNumbers {
		for _, m := range maps() {
			checkForm(t, m, n)
		}
	}
	for _, m := range wrongMaps() {
		for _, n := range []string{"0", "-7", nines, "", "-0"} {
			checkForm(t, m, n)
		}
	}
}

// TestArguments: maps that are arguments are not changed, and what was returned does not change what is returned later (R5, R6).
func TestArguments(t *testing.T) {
	for _, m := range append(maps(), wrongMaps()...) {
		before := copyOf(m)
		for range 2 {
			step.Valid(m)
			step.Regular(m)
			step.Step(m, "-17")
			step.Run(m, "27", 50)
			step.Falls(m, "27", 50)
			if numbers, e := step.Orbit(m, "27", 3); e == api.OK {
				numbers[1] = "0"
			}
		}
		if !equal(m, before) {
			t.Errorf("%v has become %v", before, m)
		}
	}
	a, e1 := step.Orbit(step.Collatz(), "7", 5)
	b, e2 := step.Orbit(step.Collatz(), "7", 5)
	a[0], a[5] = "0", "0"
	if e1 != api.OK || e2 != api.OK || !slices.Equal(b, strings.Fields("7 11 17 26 13 20")) {
		t.Errorf("Orbit, called twice: %v, %d, %d", b, e1, e2)
	}
}

// checkFall compares Falls with the definition.
func checkFall(t *testing.T, m api.Map, n string, most int) {
	t.Helper()
	wantSteps, wantX, wantE := 0, "", api.ErrNone
	start, v := value(t, n), value(t, n)
	for i := range most {
		v = mapped(t, m, v)
		s, e := text(v)
		if e != api.OK {
			wantE = e
			break
		}
		if v.Cmp(start) < 0 {
			wantSteps, wantX, wantE = i+1, s, api.OK
			break
		}
	}
	if steps, x, e := step.Falls(m, n, most); steps != wantSteps || x != wantX || e != wantE {
		t.Errorf("Falls(%v, %s, %d): %d, %s, %d, not %d, %s, %d", m, short(n), most, steps, short(x), e, wantSteps, short(wantX), wantE)
	}
}

// TestFalls is P2.3.
func TestFalls(t *testing.T) {
	for _, m := range maps() {
		for _, n := range samples {
			for _, most := range []int{1, 2, 60} {
				checkFall(t, m, n, most)
			}
		}
	}
	r := rand.New(rand.NewSource(6))
	for i := range 600 {
		checkFall(t, randomMap(r), randomNumber(r, []int{3, 20, 300, api.MaxDigits}[i%4]), 1+r.Intn(50))
	}
	for n := -100; n < 1000; n++ {
		checkFall(t, step.Collatz(), big.NewInt(int64(n)).String(), 200)
	}
}

func TestFallsExamples(t *testing.T) {
	negative := "-" + strings.Repeat("6", api.MaxDigits-1)
	for _, c := range []struct {
		n     string
		most  int
		steps int
		x     string
		e     api.Errno
	}{
		{"7", api.MaxSteps, 7, "5", api.OK}, {"7", 6, 0, "", api.ErrNone},
		{"27", 59, 59, "23", api.OK}, {"27", 58, 0, "", api.ErrNone},
		{"2", 1, 1, "1", api.OK}, {"1", api.MaxSteps, 0, "", api.ErrNone}, {"0", api.MaxSteps, 0, "", api.ErrNone},
		// A negative odd number falls at once, a negative even one rises.
		{"-1", api.MaxSteps, 0, "", api.ErrNone}, {"-5", 1, 1, "-7", api.OK}, {"-10", 2, 0, "", api.ErrNone}, {"-136", api.MaxSteps, 0, "", api.ErrNone},
		{nines, 1, 0, "", api.ErrSize}, {nines, api.MaxSteps, 0, "", api.ErrSize}, {"-" + nines, 1, 0, "", api.ErrSize},
		{tens, 1, 1, "5" + tens[2:], api.OK}, {"-" + tens, 1, 0, "", api.ErrNone}, {negative + "5", 1, 1, "-" + nines[1:] + "7", api.OK}, {negative + "7", 1, 0, "", api.ErrSize},
	} {
		steps, x, e := step.Falls(step.Collatz(), c.n, c.most)
		if steps != c.steps || x != c.x || e != c.e {
			t.Errorf("Falls(%s, %d): %d, %s, %d, not %d, %s, %d", short(c.n), c.most, steps, short(x), e, c.steps, short(c.x), c.e)
		}
	}
}

// TestLateFalls: a number may fall at the last step that is asked for, and not before; after the step that follows, it falls too late.
func TestLateFalls(t *testing.T) {
	// An odd number rises by 39997 or 39999, once; an even one falls by 2.
	in := api.Map{Mod: 2, Mul: []int{2, 2}, Add: []int{-4, 2 * 39997}}
	late := api.Map{Mod: 2, Mul: []int{2, 2}, Add: []int{-4, 2 * 39999}}
	if steps, x, e := step.Falls(in, "1", api.MaxSteps); steps != api.MaxSteps || x != "0" || e != api.OK {
		t.Errorf("Falls: %d, %s, %d", steps, x, e)
	}
	if steps, x, e := step.Falls(in, "1", api.MaxSteps-1); steps != 0 || x != "" || e != api.ErrNone {
		t.Errorf("Falls, one step before: %d, %s, %d", steps, x, e)
	}
	if steps, x, e := step.Falls(late, "1", api.MaxSteps); steps != 0 || x != "" || e != api.ErrNone {
		t.Errorf("Falls, one step late: %d, %s, %d", steps, x, e)
	}
}

// TestFallIsFirst: no number of the orbit before the fall is less than the first one.
func TestFallIsFirst(t *testing.T) {
	for n := 2; n < 1500; n++ {
		s := big.NewInt(int64(n)).String()
		steps, x, e := step.Falls(step.Collatz(), s, api.MaxSteps)
		numbers, e2 := step.Orbit(step.Collatz(), s, steps)
		if e != api.OK || e2 != api.OK || numbers[steps] != x {
			t.Fatalf("Falls(%d): %d, %s, %d", n, steps, x, e)
		}
		for i, y := range numbers {
			if order, _ := num.Compare(y, s); (order < 0) != (i == steps) {
				t.Fatalf("Falls(%d): %d, %s, but %s after %d steps", n, steps, x, y, i)
			}
		}
	}
}
