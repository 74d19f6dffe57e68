package sieve_test

import (
	"cmp"
	"math"
	"math/big"
	"math/rand"
	"slices"
	"strings"

	"katabasis/api"
)

// nines is the greatest number; tens is the least one of MaxDigits digits.
var (
	nines = strings.Repeat("9", api.MaxDigits)
	tens  = "1" + strings.Repeat("0", api.MaxDigits-1)
)

// wrongNumbers are strings that are no valid numbers.
var wrongNumbers = []string{"", "-", "-0", "+1", "00", "007", "-01", " 1", "1 ", "1.0", "1/2", "x", "\uff11", nines + "9", "-" + nines + "9", "0" + nines[1:]}

// samples are numbers around 0, around the sizes of machine words, and of MaxDigits digits.
var samples = []string{
	"0", "1", "-1", "2", "-2", "3", "-3", "4", "-5", "7", "27", "-17", "65535", "65536", "-65536", "-65537",
	"2147483647", "-2147483648", "9223372036854775807", "-9223372036854775808", "18446744073709551615", "-18446744073709551617",
	nines[:100], "-" + nines[:1000], tens, "-" + tens, nines, "-" + nines,
}

// collatz is Collatz's map.
func collatz() api.Map { return api.Map{Mod: 2, Mul: []int{1, 3}, Add: []int{0, 1}} }

// maps are regular maps: with falls after few steps and after many, with Adds below 0 and at their limits, one whose rests all fall after one step, and one of whose rests none ever does.
func maps() []api.Map {
	return []api.Map{
		collatz(),
		{Mod: 2, Mul: []int{1, 3}, Add: []int{0, -1}},
		{Mod: 2, Mul: []int{1, 5}, Add: []int{0, 999999}},
		{Mod: 2, Mul: []int{1, 5}, Add: []int{-999998, -999999}},
		{Mod: 2, Mul: []int{3, 1}, Add: []int{4, -7}},
		{Mod: 2, Mul: []int{999, 1}, Add: []int{999998, 1}},
		{Mod: 2, Mul: []int{999, 999}, Add: []int{-999998, 999999}},
		{Mod: 2, Mul: []int{3, 5}, Add: []int{0, 1}},
		{Mod: 3, Mul: []int{1, 4, 4}, Add: []int{0, -1, 1}},
		{Mod: 3, Mul: []int{2, 2, 7}, Add: []int{0, 1, 1}},
		{Mod: 4, Mul: []int{1, 5, 3, 7}, Add: []int{0, 3, -2, -1}},
		{Mod: 10, Mul: []int{1, 3, 7, 9, 11, 13, 17, 19, 21, 23}, Add: []int{0, 7, -4, 3, 6, -5, 8, 7, -8, 3}},
		{Mod: 12, Mul: slices.Repeat([]int{995}, 12), Add: []int{0, 1, -10, 3, -8, 5, -6, 7, -4, 9, -2, 999995}},
		{Mod: 12, Mul: []int{13, 1, 11, 5, 17, 1, 35, 7, 1, 23, 11, 5}, Add: []int{-12, 11, 2, -3, 4, -999989, 6, 11, 4, -999987, 10, 999989}},
		identity(2), identity(7), identity(api.MaxMod),
	}
}

// identity is the map that takes the rest away, and divides.
func identity(mod int) api.Map {
	m := api.Map{Mod: mod}
	for r := range mod {
		m.Mul, m.Add = append(m.Mul, 1), append(m.Add, -r)
	}
	return m
}

// irregular are valid maps that are not regular.
func irregular() []api.Map {
	return []api.Map{
		{Mod: 2, Mul: []int{2, 3}, Add: []int{0, 1}},
		{Mod: 2, Mul: []int{1, 4}, Add: []int{0, 4}},
		{Mod: 4, Mul: []int{1, 1, 1, 6}, Add: []int{0, -1, -2, 2}},
		{Mod: 9, Mul: []int{1, 1, 1, 1, 1, 1, 1, 1, 6}, Add: []int{0, -1, -2, -3, -4, -5, -6, -7, 6}},
		{Mod: 12, Mul: slices.Repeat([]int{12}, 12), Add: slices.Repeat([]int{0}, 12)},
	}
}

// wrongMaps are maps that are not valid, each in one way.
func wrongMaps() []api.Map {
	list := []api.Map{
		{}, {Mod: 2}, {Mul: []int{1, 3}, Add: []int{0, 1}}, {Mod: 1, Mul: []int{1}, Add: []int{0}}, {Mod: -2, Mul: []int{1, 3}, Add: []int{0, 1}},
		{Mod: math.MinInt, Mul: []int{1, 3}, Add: []int{0, 1}}, {Mod: math.MaxInt, Mul: []int{1, 3}, Add: []int{0, 1}}, identity(api.MaxMod + 1),
		{Mod: 2, Mul: []int{1, 3}}, {Mod: 2, Add: []int{0, 1}}, {Mod: 3, Mul: []int{1, 3}, Add: []int{0, 1}},
		{Mod: 2, Mul: []int{1}, Add: []int{0, 1}}, {Mod: 2, Mul: []int{1, 3, 1}, Add: []int{0, 1}},
		{Mod: 2, Mul: []int{1, 3}, Add: []int{0}}, {Mod: 2, Mul: []int{1, 3}, Add: []int{0, 1, 0}},
	}
	for _, mul := range []int{0, -1, -3, 2, 1000, 1001, math.MaxInt, math.MinInt} {
		list = append(list, api.Map{Mod: 2, Mul: []int{1, mul}, Add: []int{0, 1}})
	}
	for _, add := range []int{0, -2, 1000001, -1000001, math.MaxInt, math.MinInt + 1} {
		list = append(list, api.Map{Mod: 2, Mul: []int{1, 3}, Add: []int{0, add}})
	}
	return append(list, api.Map{Mod: 2, Mul: []int{0, 3}, Add: []int{0, 1}}, api.Map{Mod: 2, Mul: []int{1, 3}, Add: []int{1000000, 1}}, api.Map{Mod: 2, Mul: []int{1, 3}, Add: []int{-1, 1}})
}

// randomMap returns a regular map with Muls around Mod, so that words fall after few steps and after many.
func randomMap(r *rand.Rand) api.Map {
	m := api.Map{Mod: 2 + r.Intn(api.MaxMod-1)}
	most := []int{1, 30, api.MaxAdd - 12}[r.Intn(3)]
	for len(m.Mul) < m.Mod {
		mul := 1 + r.Intn([]int{2*m.Mod + 1, 5 * m.Mod, api.MaxMul}[r.Intn(3)])
		if new(big.Int).GCD(nil, nil, big.NewInt(int64(m.Mod)), big.NewInt(int64(mul))).Int64() != 1 {
			continue
		}
		add := r.Intn(2*most+1) - most
		for (mul*len(m.Mul)+add)%m.Mod != 0 {
			add++
		}
		m.Mul, m.Add = append(m.Mul, mul), append(m.Add, add)
	}
	return m
}

// restsOf is Mod^k.
func restsOf(m api.Map, k int) int { return int(math.Pow(float64(m.Mod), float64(k)) + 0.5) }

// greatest is the greatest k for which Mod^k is at most a limit.
func greatest(m api.Map, limit int) int {
	k := 1
	for restsOf(m, k+1) <= limit {
		k++
	}
	return k
}

// walk is where the steps lead from a number: along its word, with the word's linear map.
type walk struct {
	at, mul, add, div *big.Int
}

func walkFrom(n *big.Int) walk {
	return walk{at: new(big.Int).Set(n), mul: big.NewInt(1), add: big.NewInt(0), div: big.NewInt(1)}
}

// further is the walk after one step more.
func (w walk) further(m api.Map) walk {
	mod := big.NewInt(int64(m.Mod))
	// Mod of package big is never negative.
	r := new(big.Int).Mod(w.at, mod).Int64()
	mul, add := big.NewInt(int64(m.Mul[r])), big.NewInt(int64(m.Add[r]))
	next := walk{at: new(big.Int).Mul(mul, w.at), mul: new(big.Int).Mul(mul, w.mul), add: new(big.Int).Mul(mul, w.add), div: new(big.Int).Mul(mod, w.div)}
	next.at.Quo(next.at.Add(next.at, add), mod)
	next.add.Add(next.add, new(big.Int).Mul(add, w.div))
	return next
}

func (w walk) line() api.Line {
	return api.Line{Mul: w.mul.String(), Add: w.add.String(), Div: w.div.String()}
}

// fallOf is the fall of a number, straight by the definition.
func fallOf(m api.Map, n *big.Int, k int) (api.Fall, bool) {
	w := walkFrom(n)
	for steps := 1; steps <= k; steps++ {
		w = w.further(m)
		if w.mul.Cmp(w.div) < 0 {
			rest := new(big.Int).Mod(n, w.div)
			// Div of package big rounds down if the divisor is positive.
			bound := new(big.Int).Div(w.add, new(big.Int).Sub(w.div, w.mul))
			return api.Fall{Steps: steps, Rest: int(rest.Int64()), Line: w.line(), Bound: bound.String()}, true
		}
	}
	return api.Fall{}, false
}

// sieveOf is the sieve, straight by the definition: rest by rest.
func sieveOf(m api.Map, k int) ([]api.Fall, []int) {
	falls, left, met := []api.Fall{}, []int{}, map[api.Fall]bool{}
	for rest := range restsOf(m, k) {
		f, ok := fallOf(m, big.NewInt(int64(rest)), k)
		if !ok {
			left = append(left, rest)
		} else if !met[f] {
			met[f] = true
			falls = append(falls, f)
		}
	}
	slices.SortFunc(falls, func(a, b api.Fall) int {
		return cmp.Or(cmp.Compare(a.Steps, b.Steps), cmp.Compare(a.Rest, b.Rest))
	})
	return falls, left
}

// randomNumber returns a number of at most so many digits.
func randomNumber(r *rand.Rand, most int) string {
	n := new(big.Int).Rand(r, new(big.Int).Exp(big.NewInt(10), big.NewInt(int64(1+r.Intn(most))), nil))
	if r.Intn(2) == 0 {
		n.Neg(n)
	}
	return n.String()
}

func value(s string) *big.Int {
	v, ok := new(big.Int).SetString(s, 10)
	if !ok {
		panic("no number: " + s)
	}
	return v
}

// short cuts a string, so that a message can be read.
func short(s string) string {
	if len(s) <= 60 {
		return s
	}
	return s[:30] + ".." + s[len(s)-28:]
}

func copyOf(m api.Map) api.Map {
	return api.Map{Mod: m.Mod, Mul: slices.Clone(m.Mul), Add: slices.Clone(m.Add)}
}

func equal(a, b api.Map) bool {
	return a.Mod == b.Mod && slices.Equal(a.Mul, b.Mul) && slices.Equal(a.Add, b.Add)
}
