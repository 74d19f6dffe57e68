package word_test

import (
	"math"
	"math/big"
	"math/rand"
	"slices"
	"strings"
	"testing"

	"katabasis/api"
)

// The greatest and the least sizes of numbers of exactly MaxDigits digits, and half of the least size that is too long.
var (
	nines = strings.Repeat("9", api.MaxDigits)
	tens  = "1" + strings.Repeat("0", api.MaxDigits-1)
	half  = "5" + strings.Repeat("0", api.MaxDigits-1)
)

// wrongNumbers are strings that are no valid numbers.
var wrongNumbers = []string{"", "-", "-0", "+1", "00", "007", "-01", " 1", "1 ", "1.0", "1/2", "x", "\uff11", nines + "9", "-" + nines + "9", "0" + nines[1:]}

// samples are numbers around 0, around the sizes of machine words, and of MaxDigits digits.
var samples = []string{
	"0", "1", "-1", "2", "-2", "3", "-3", "4", "7", "-7", "12", "-12", "27", "-17", "144", "-1000000",
	"99999999999999", "-999999999999999", "1000000000000000", "9223372036854775807", "-9223372036854775808", "-18446744073709551617",
	nines[:100], "-" + nines[:1000], tens, "-" + tens, half, "-" + half, nines, "-" + nines,
}

// maps are valid maps: regular or not, with Adds below 0, and with Mod, Mul and Add at their limits.
func maps() []api.Map {
	return []api.Map{
		{Mod: 2, Mul: []int{1, 3}, Add: []int{0, 1}},
		{Mod: 2, Mul: []int{1, 5}, Add: []int{0, -1}},
		{Mod: 2, Mul: []int{999, 999}, Add: []int{-999998, 999999}},
		{Mod: 2, Mul: []int{1, 4}, Add: []int{0, 4}},
		{Mod: 2, Mul: []int{4, 4}, Add: []int{-2, 2}},
		{Mod: 3, Mul: []int{2, 4, 4}, Add: []int{0, -1, 1}},
		{Mod: 3, Mul: []int{3, 6, 1}, Add: []int{-3, 0, 1}},
		{Mod: 10, Mul: []int{1, 3, 7, 9, 11, 13, 17, 19, 21, 23}, Add: []int{0, 7, -4, 3, 6, -5, 8, 7, -8, 3}},
		{Mod: 12, Mul: slices.Repeat([]int{995}, 12), Add: []int{0, 1, -10, 3, -8, 5, -6, 7, -4, 9, -2, 999995}},
		{Mod: 12, Mul: []int{1, 5, 7, 11, 999, 1, 2, 3, 4, 6, 8, 12}, Add: []int{0, 7, 10, 3, 0, 7, 0, 3, 4, 6, 4, 0}},
		{Mod: 12, Mul: slices.Repeat([]int{12}, 12), Add: slices.Repeat([]int{-999996}, 12)},
	}
}

// regular is the definition: no number but 1 divides Mod and a Mul.
func regular(m api.Map) bool {
	for d := 2; d <= m.Mod; d++ {
		if m.Mod%d == 0 && slices.ContainsFunc(m.Mul, func(mul int) bool { return mul%d == 0 }) {
			return false
		}
	}
	return true
}

// identity is the map that takes the rest away, and divides.
func identity(mod int) api.Map {
	m := api.Map{Mod: mod}
	for r := range mod {
		m.Mul, m.Add = append(m.Mul, 1), append(m.Add, -r)
	}
	return m
}

// wrongMaps are maps that are not valid, each in one way.
func wrongMaps() []api.Map {
	list := []api.Map{
		{}, {Mod: 2}, {Mul: []int{1, 3}, Add: []int{0, 1}}, {Mod: 1, Mul: []int{1}, Add: []int{0}}, {Mod: -2, Mul: []int{1, 3}, Add: []int{0, 1}},
		{Mod: math.MinInt, Mul: []int{1, 3}, Add: []int{0, 1}}, {Mod: math.MaxInt, Mul: []int{1, 3}, Add: []int{0, 1}}, identity(api.MaxMod + 1),
		{Mod: 2, Mul: []int{1, 3}}, {Mod: 2, Add: []int{0, 1}}, {Mod: 3, Mul: []int{1, 3}, Add: []int{0, 1}},
		{Mod: 2, Mul: []int{1}, Add: []int{0, 1}}, {Mod: 2, Mul: []int{1, 3, 1}, Add: []int{0, 1}},
		{Mod: 2, Mul: []int{1, 3}, Add: []int{0}}, {Mod: 2, Mul: []int{1, 3}, Add: []int{0, 1, 0}},
	}
	for _, mul := range []int{0, -1, -3, 2, 1000, 1001, math.MaxInt, math.MinInt} {
		list = append(list, api.Map{Mod: 2, Mul: []int{1, mul}, Add: []int{0, 1}})
	}
	for _, add := range []int{0, -2, 1000001, -1000001, math.MaxInt, math.MinInt + 1} {
		list = append(list, api.Map{Mod: 2, Mul: []int{1, 3}, Add: []int{0, add}})
	}
	return append(list, api.Map{Mod: 2, Mul: []int{0, 3}, Add: []int{0, 1}}, api.Map{Mod: 2, Mul: []int{1, 3}, Add: []int{1000000, 1}}, api.Map{Mod: 2, Mul: []int{1, 3}, Add: []int{-1, 1}})
}

// short cuts a string, so that a message can be read.
func short(s string) string {
	if len(s) <= 60 {
		return s
	}
	return s[:30] + ".." + s[len(s)-28:]
}

func copyOf(m api.Map) api.Map {
	return api.Map{Mod: m.Mod, Mul: slices.Clone(m.Mul), Add: slices.Clone(m.Add)}
}

func equal(a, b api.Map) bool {
	return a.Mod == b.Mod && slices.Equal(a.Mul, b.Mul) && slices.Equal(a.Add, b.Add)
}

// randomMap returns a valid map.
func randomMap(r *rand.Rand) api.Map { return randomMapOf(r, func(int, int) bool { return true }) }

// randomRegular returns a valid map that is regular.
func randomRegular(r *rand.Rand) api.Map {
	return randomMapOf(r, func(mod, mul int) bool {
		return new(big.Int).GCD(nil, nil, big.NewInt(int64(mod)), big.NewInt(int64(mul))).Int64() == 1
	})
}

// randomMapOf returns a valid map, each of whose Mul pleases.
func randomMapOf(r *rand.Rand, pleases func(mod, mul int) bool) api.Map {
	m := api.Map{Mod: 2 + r.Intn(api.MaxMod-1)}
	for len(m.Mul) < m.Mod {
		mul := 1 + r.Intn([]int{3, 20, api.MaxMul}[r.Intn(3)])
		if !pleases(m.Mod, mul) {
			continue
		}
		most := []int{1, 30, api.MaxAdd - 12}[r.Intn(3)]
		add := r.Intn(2*most+1) - most
		for (mul*len(m.Mul)+add)%m.Mod != 0 {
			add++
		}
		m.Mul, m.Add = append(m.Mul, mul), append(m.Add, add)
	}
	return m
}

// randomNumber returns a number of at most so many digits.
func randomNumber(r *rand.Rand, most int) string {
	n := new(big.Int).Rand(r, power(10, 1+r.Intn(most)))
	if r.Intn(2) == 0 {
		n.Neg(n)
	}
	return n.String()
}

// randomWord returns a word of so many rests.
func randomWord(r *rand.Rand, m api.Map, length int) []int {
	w := make([]int, length)
	for i := range w {
		w[i] = r.Intn(m.Mod)
	}
	return w
}

func power(a, n int) *big.Int {
	return new(big.Int).Exp(big.NewInt(int64(a)), big.NewInt(int64(n)), nil)
}

func value(t *testing.T, s string) *big.Int {
	t.Helper()
	v, ok := new(big.Int).SetString(s, 10)
	if !ok || v.String() != s {
		t.Fatalf("%q is not the string of a number", short(s))
	}
	return v
}

// tooLong reports whether a number has more than MaxDigits digits.
func tooLong(v *big.Int) bool { return len(new(big.Int).Abs(v).String()) > api.MaxDigits }

// wordOf is the word of a number, straight by the definition, or ErrSize.
func wordOf(t *testing.T, m api.Map, n *big.Int, k int) ([]int, api.Errno) {
	t.Helper()
	w, mod := []int{}, big.NewInt(int64(m.Mod))
	for range k {
		if tooLong(n) {
			return nil, api.ErrSize
		}
		// Mod of package big is never negative.
		r := int(new(big.Int).Mod(n, mod).Int64())
		w = append(w, r)
		product := new(big.Int).Mul(big.NewInt(int64(m.Mul[r])), n)
		product.Add(product, big.NewInt(int64(m.Add[r])))
		result, left := product.QuoRem(product, mod, new(big.Int))
		if left.Sign() != 0 {
			t.Fatalf("%v does not map %s to a whole number", m, short(n.String()))
		}
		n = result
	}
	return w, api.OK
}

// along is where the steps of a word lead from a fraction, whether or not it has their rests.
func along(m api.Map, w []int, x *big.Rat) *big.Rat {
	y := new(big.Rat).Set(x)
	for _, r := range w {
		y.Mul(y, big.NewRat(int64(m.Mul[r]), 1))
		y.Add(y, big.NewRat(int64(m.Add[r]), 1))
		y.Quo(y, big.NewRat(int64(m.Mod), 1))
	}
	return y
}

// at is where a linear map leads from a fraction.
func at(t *testing.T, l api.Line, x *big.Rat) *big.Rat {
	t.Helper()
	y := new(big.Rat).Mul(new(big.Rat).SetInt(value(t, l.Mul)), x)
	y.Add(y, new(big.Rat).SetInt(value(t, l.Add)))
	return y.Quo(y, new(big.Rat).SetInt(value(t, l.Div)))
}
