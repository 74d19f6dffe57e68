package cycle_test

import (
	"math"
	"math/big"
	"math/rand"
	"slices"

	"katabasis/api"
)

func collatz() api.Map { return kin(3, 1) }

// kin is the map that halves n or q n + c.
func kin(q, c int) api.Map { return api.Map{Mod: 2, Mul: []int{1, q}, Add: []int{0, c}} }

// same is a map with one Mul, that adds a rest to what it divides, or the opposite.
func same(mod, mul, sign int) api.Map {
	m := api.Map{Mod: mod, Mul: slices.Repeat([]int{mul}, mod)}
	for r := range mod {
		m.Add = append(m.Add, sign*r)
	}
	return m
}

// maps are regular maps of every Mod: with a few loops and with many, with Muls less and greater than Mod, and with Mul and Add at their limits.
func maps() []api.Map {
	return []api.Map{
		collatz(), kin(3, -1), kin(3, 5), kin(3, 5005), kin(5, 1), kin(181, 1), kin(1, 1), kin(1, -999999), kin(1, 65535), kin(999, 999999),
		{Mod: 2, Mul: []int{999, 999}, Add: []int{-999998, 999999}},
		{Mod: 2, Mul: []int{3, 3}, Add: []int{0, 1}},
		{Mod: 3, Mul: []int{2, 4, 4}, Add: []int{0, -1, 1}},
		{Mod: 3, Mul: []int{1, 1, 1}, Add: []int{0, -1, -2}},
		{Mod: 4, Mul: []int{1, 5, 3, 7}, Add: []int{0, 3, -2, -1}},
		same(5, 4, 1), same(5, 6, -1),
		{Mod: 6, Mul: []int{1, 5, 7, 1, 5, 995}, Add: []int{-6, 1, 4, 3, -2, 5}},
		same(7, 6, 1),
		{Mod: 8, Mul: []int{1, 9, 7, 5, 3, 1, 9, 11}, Add: []int{0, -1, 2, 1, -4, 3, 2, 3}},
		same(9, 10, -1),
		{Mod: 10, Mul: []int{1, 3, 7, 9, 11, 13, 17, 19, 21, 23}, Add: []int{0, 7, -4, 3, 6, -5, 8, 7, -8, 3}},
		same(11, 12, -1), same(12, 11, 1),
		{Mod: 12, Mul: slices.Repeat([]int{995}, 12), Add: []int{0, 1, -10, 3, -8, 5, -6, 7, -4, 9, -2, 999995}},
	}
}

// irregular are valid maps that are not regular: one Mul has a divisor of Mod, the first or the last one, or all have; by the last three, every number is in a loop of its own, or with one other number.
func irregular() []api.Map {
	return []api.Map{
		{Mod: 2, Mul: []int{2, 3}, Add: []int{0, 1}},
		{Mod: 2, Mul: []int{1, 4}, Add: []int{0, 4}},
		{Mod: 4, Mul: []int{6, 3, 6, 3}, Add: []int{0, 1, 0, -1}},
		{Mod: 9, Mul: []int{1, 1, 1, 1, 1, 1, 1, 1, 6}, Add: []int{0, -1, -2, -3, -4, -5, -6, -7, 6}},
		{Mod: 2, Mul: []int{2, 2}, Add: []int{0, 0}},
		{Mod: 12, Mul: slices.Repeat([]int{12}, 12), Add: slices.Repeat([]int{0}, 12)},
		{Mod: 2, Mul: []int{2, 2}, Add: []int{2, -2}},
	}
}

// wrongMaps are maps that are not valid, each in one way.
func wrongMaps() []api.Map {
	list := []api.Map{
		{}, {Mod: 2}, {Mul: []int{1, 3}, Add: []int{0, 1}}, {Mod: 1, Mul: []int{1}, Add: []int{0}}, {Mod: -2, Mul: []int{1, 3}, Add: []int{0, 1}},
		{Mod: math.MinInt, Mul: []int{1, 3}, Add: []int{0, 1}}, {Mod: math.MaxInt, Mul: []int{1, 3}, Add: []int{0, 1}}, same(api.MaxMod+1, 12, 1),
		{Mod: 2, Mul: []int{1, 3}}, {Mod: 2, Add: []int{0, 1}}, {Mod: 3, Mul: []int{1, 3}, Add: []int{0, 1}},
		{Mod: 2, Mul: []int{1}, Add: []int{0, 1}}, {Mod: 2, Mul: []int{1, 3, 1}, Add: []int{0, 1}},
		{Mod: 2, Mul: []int{1, 3}, Add: []int{0}}, {Mod: 2, Mul: []int{1, 3}, Add: []int{0, 1, 0}},
		{Mod: 2, Mul: []int{0, 3}, Add: []int{0, 1}}, {Mod: 2, Mul: []int{1, 3}, Add: []int{1000000, 1}}, {Mod: 2, Mul: []int{1, 3}, Add: []int{-1, 1}},
	}
	for _, mul := range []int{0, -1, -3, 2, 1000, 1001, math.MaxInt, math.MinInt} {
		list = append(list, api.Map{Mod: 2, Mul: []int{1, mul}, Add: []int{0, 1}})
	}
	for _, add := range []int{0, -2, 1000001, -1000001, math.MaxInt, math.MinInt + 1} {
		list = append(list, api.Map{Mod: 2, Mul: []int{1, 3}, Add: []int{0, add}})
	}
	return list
}

// wrongWords are lists that are no words of a map with this modulus, or empty: a wrong rest first, last, between, alone, or in a list that is too long.
func wrongWords(mod int) [][]int {
	list := [][]int{nil, {}, make([]int, api.MaxWord+1), make([]int, 5*api.MaxWord), slices.Repeat([]int{mod - 1}, api.MaxWord+1)}
	for _, r := range []int{-1, mod, mod + 1, -mod, math.MinInt, math.MaxInt} {
		long := make([]int, api.MaxWord)
		long[api.MaxWord-1] = r
		list = append(list, []int{r}, []int{r, 0, 1}, []int{0, r, 1}, []int{0, 1, r}, long, slices.Repeat([]int{r}, api.MaxWord+1))
	}
	return list
}

// randomMap returns a regular map. With few Adds and with Muls around Mod, it often has loops.
func randomMap(r *rand.Rand) api.Map {
	m := api.Map{Mod: 2 + r.Intn(api.MaxMod-1)}
	most := []int{1, 30, api.MaxAdd - 12}[r.Intn(3)]
	greatest := []int{2*m.Mod + 1, api.MaxMul}[r.Intn(2)]
	for len(m.Mul) < m.Mod {
		mul := 1 + r.Intn(greatest)
		if new(big.Int).GCD(nil, nil, big.NewInt(int64(m.Mod)), big.NewInt(int64(mul))).Int64() != 1 {
			continue
		}
		add := r.Intn(2*most+1) - most
		for (mul*len(m.Mul)+add)%m.Mod != 0 {
			add++
		}
		m.Mul, m.Add = append(m.Mul, mul), append(m.Add, add)
	}
	return m
}

func randomWord(r *rand.Rand, m api.Map, length int) []int {
	w := make([]int, length)
	for i := range w {
		w[i] = r.Intn(m.Mod)
	}
	return w
}

// allWords are the words of a length.
func allWords(mod, length int) [][]int {
	list := [][]int{{}}
	for range length {
		var longer [][]int
		for _, w := range list {
			for r := range mod {
				longer = append(longer, append(slices.Clone(w), r))
			}
		}
		list = longer
	}
	return list
}

// turned is the word that begins some rests later.
func turned(w []int, by int) []int { return slices.Concat(w[by:], w[:by]) }

// primitive is the definition: the word is not empty, and not a shorter word, several times.
func primitive(w []int) bool {
	for length := 1; length < len(w); length++ {
		if len(w)%length == 0 && slices.Equal(w, slices.Repeat(w[:length], len(w)/length)) {
			return false
		}
	}
	return len(w) > 0
}

// greatestMost is the greatest length of which there are at most MaxRests words.
func greatestMost(mod int) int {
	words := func(length int) float64 { return math.Pow(float64(mod), float64(length)) }
	most := 1
	for words(most+1) <= api.MaxRests {
		most++
	}
	return most
}

// restOf is the rest of a fraction, straight by the definition; -1 if it has none.
func restOf(x *big.Rat, mod int) int {
	for r := range mod {
		left := new(big.Int).Mul(big.NewInt(int64(r)), x.Denom())
		left.Sub(x.Num(), left)
		if left.Mod(left, big.NewInt(int64(mod))).Sign() == 0 {
			return r
		}
	}
	return -1
}

// mapped is where the step of a rest leads from a fraction.
func mapped(m api.Map, r int, x *big.Rat) *big.Rat {
	y := new(big.Rat).Mul(big.NewRat(int64(m.Mul[r]), 1), x)
	y.Add(y, big.NewRat(int64(m.Add[r]), 1))
	return y.Quo(y, big.NewRat(int64(m.Mod), 1))
}

// fixedOf is the fraction x for which the steps of a word lead from x to x: they lead from 0 to b and from 1 to a + b, and a x + b is x.
func fixedOf(m api.Map, w []int) *big.Rat {
	b, sum := new(big.Rat), big.NewRat(1, 1)
	for _, r := range w {
		b, sum = mapped(m, r, b), mapped(m, r, sum)
	}
	a := new(big.Rat).Sub(sum, b)
	return b.Quo(b, a.Sub(big.NewRat(1, 1), a))
}

// fracOf is a fraction as it is written. Package big keeps fractions reduced.
func fracOf(x *big.Rat) api.Frac { return api.Frac{Num: x.Num().String(), Den: x.Denom().String()} }

// ratOf is the fraction that is written so.
func ratOf(x api.Frac) *big.Rat { return new(big.Rat).SetFrac(value(x.Num), value(x.Den)) }

func value(s string) *big.Int {
	v, ok := new(big.Int).SetString(s, 10)
	if !ok {
		panic("no number: " + s)
	}
	return v
}

func copyOf(m api.Map) api.Map {
	return api.Map{Mod: m.Mod, Mul: slices.Clone(m.Mul), Add: slices.Clone(m.Add)}
}

func equal(a, b api.Map) bool {
	return a.Mod == b.Mod && slices.Equal(a.Mul, b.Mul) && slices.Equal(a.Add, b.Add)
}

// brief is the beginning of a list, so that a message can be read.
func brief[T any](list []T) []T { return list[:min(len(list), 12)] }
