package cycle_test

import (
	"cmp"
	"math"
	"math/big"
	"math/rand"
	"slices"
	"strings"
	"testing"

	"katabasis/api"
	"katabasis/cycle"
)

// checkLoops checks a call of Loops, twice. The first list is spoilt in between: results are new memory.
func checkLoops(t *testing.T, m api.Map, most int, want [][]string, wantE api.Errno) {
	t.Helper()
	given := copyOf(m)
	for range 2 {
		loops, e := cycle.Loops(given, most)
		same := slices.EqualFunc(loops, want, func(l api.Loop, numbers []string) bool { return slices.Equal(l.Numbers, numbers) })
		if !same || e != wantE {
			t.Errorf("Loops(%v, %d): %d loops %v, %d instead of %d %v, %d", m, most, len(loops), brief(loops), e, len(want), brief(want), wantE)
		}
		for i := range loops {
			clear(loops[i].Numbers)
			loops[i].Numbers = append(loops[i].Numbers, "spoilt")
		}
	}
	if !equal(given, m) {
		t.Errorf("Loops(%v, %d) has changed its map to %v", m, most, given)
	}
}

// loopsOf are the loops, straight by the definition: of all words, primitive or not, those whose fraction is a whole number, which is followed until it occurs again.
func loopsOf(m api.Map, most int) [][]string {
	var loops [][]string
	met := map[string]bool{}
	type line struct{ mul, add, div *big.Int }
	lines := []line{{big.NewInt(1), big.NewInt(0), big.NewInt(1)}}
	for range most {
		var longer []line
		for _, l := range lines {
			for r := range m.Mod {
				mul := big.NewInt(int64(m.Mul[r]))
				add := new(big.Int).Mul(big.NewInt(int64(m.Add[r])), l.div)
				add.Add(add, new(big.Int).Mul(mul, l.add))
				longer = append(longer, line{mul.Mul(mul, l.mul), add, new(big.Int).Mul(big.NewInt(int64(m.Mod)), l.div)})
			}
		}
		lines = longer
		for _, l := range lines {
			x, left := new(big.Int).QuoRem(l.add, new(big.Int).Sub(l.div, l.mul), new(big.Int))
			if left.Sign() != 0 || met[x.String()] {
				continue
			}
			numbers := orbitOf(m, x)
			for _, n := range numbers {
				met[n] = true
			}
			loops = append(loops, leastFirst(numbers))
		}
	}
	slices.SortFunc(loops, func(a, b []string) int {
		return cmp.Or(cmp.Compare(len(a), len(b)), value(a[0]).Cmp(value(b[0])))
	})
	return loops
}

// orbitOf are the numbers from x on until x occurs again.
func orbitOf(m api.Map, x *big.Int) []string {
	numbers := []string{x.String()}
	mod := big.NewInt(int64(m.Mod))
	for n := new(big.Int).Set(x); ; {
		// Mod of package big is never negative.
		r := new(big.Int).Mod(n, mod).Int64()
		n.Mul(n, big.NewInt(int64(m.Mul[r])))
		n.Quo(n.Add(n, big.NewInt(int64(m.Add[r]))), mod)
		if n.Cmp(x) == 0 {
			return numbers
		}
		numbers = append(numbers, n.String())
	}
}

// leastFirst turns a list of numbers until its least one is the first.
func leastFirst(list []string) []string {
	least := slices.MinFunc(list, func(a, b string) int { return value(a).Cmp(value(b)) })
	at := slices.Index(list, least)
	return append(slices.Clone(list[at:]), list[:at]...)
}

// lists are lists of numbers: between bars, and each with blanks.
func lists(s string) [][]string {
	var list [][]string
	for _, part := range strings.Split(s, "|") {
		list = append(list, strings.Fields(part))
	}
	return list
}

func TestLoopsOfCollatz(t *testing.T) {
	// Of -5 -7 -10, the word that comes first in order begins at -10; of 2 1 it begins at 2, and the least number is not the first one.
	ofThree := "-1 | 0 | 1 2 | -10 -5 -7"
	ofEleven := ofThree + "| -136 -68 -34 -17 -25 -37 -55 -82 -41 -61 -91"
	for most, s := range map[int]string{1: "-1 | 0", 2: "-1 | 0 | 1 2", 3: ofThree, 10: ofThree, 11: ofEleven, 12: ofEleven, 16: ofEleven} {
		checkLoops(t, collatz(), most, lists(s), api.OK)
	}
	checkLoops(t, kin(3, -1), 11, lists("0 | 1 | -2 -1 | 5 7 10 | 17 25 37 55 82 41 61 91 136 68 34"), api.OK)
	checkLoops(t, kin(5, 1), 7, lists("0 | -2 -1 | 1 3 8 4 2 | 13 33 83 208 104 52 26 | 17 43 108 54 27 68 34"), api.OK)
}

// TestLoopsOfOneNumber: there is one for each rest, if Mod and Mul differ by one.
func TestLoopsOfOneNumber(t *testing.T) {
	checkLoops(t, same(12, 11, 1), 1, lists("0 | 1 | 2 | 3 | 4 | 5 | 6 | 7 | 8 | 9 | 10 | 11"), api.OK)
	checkLoops(t, same(12, 11, 1), 4, lists("0 | 1 | 2 | 3 | 4 | 5 | 6 | 7 | 8 | 9 | 10 | 11"), api.OK)
	// The numbers are compared as numbers, not as strings.
	distant := api.Map{Mod: 12, Mul: slices.Repeat([]int{11}, 12), Add: []int{-12, 13, 110, -9, 100, 5, -102, 7, -100, 9, -2, 11}}
	checkLoops(t, distant, 1, lists("-102 | -100 | -12 | -9 | -2 | 5 | 7 | 9 | 11 | 13 | 100 | 110"), api.OK)
}

// TestNoLoops: no word of at most 16 rests leads an integer to itself.
func TestNoLoops(t *testing.T) {
	m := api.Map{Mod: 2, Mul: []int{5, 7}, Add: []int{2, 1}}
	for _, most := range []int{1, 2, 16} {
		checkLoops(t, m, most, nil, api.OK)
	}
}

// TestManyLoops: every word of a length that divides 16 has a loop.
func TestManyLoops(t *testing.T) {
	m := kin(1, 65535)
	loops, e := cycle.Loops(m, 16)
	many := map[int]int{}
	for _, l := range loops {
		many[len(l.Numbers)]++
	}
	if many[1] != 2 || many[2] != 1 || many[4] != 3 || many[8] != 30 || many[16] != 4080 || len(loops) != 4116 || e != api.OK {
		t.Errorf("Loops(%v, 16): %d loops of the lengths %v, %d", m, len(loops), many, e)
	}
}

// TestLoopsByDefinition: for every map with most of 1, with the greatest most, and with some between.
func TestLoopsByDefinition(t *testing.T) {
	for _, m := range maps() {
		greatest := greatestMost(m.Mod)
		for _, most := range []int{1, 2, 3, greatest/2 + 1, greatest} {
			checkLoops(t, m, most, loopsOf(m, most), api.OK)
		}
	}
	r := rand.New(rand.NewSource(62))
	for range 100 {
		m := randomMap(r)
		most := 1 + r.Intn(max(1, greatestMost(m.Mod)*2/3))
		checkLoops(t, m, most, loopsOf(m, most), api.OK)
	}
}

// TestMost: the greatest most for each Mod, and one more.
func TestMost(t *testing.T) {
	for mod, greatest := range map[int]int{2: 16, 3: 10, 4: 8, 5: 6, 6: 6, 7: 5, 8: 5, 9: 5, 10: 4, 11: 4, 12: 4} {
		m := same(mod, 1, -1)
		if greatest != greatestMost(mod) {
			t.Errorf("Mod %d: %d is not the greatest most", mod, greatest)
		}
		// This map divides, rounding down.
		checkLoops(t, m, 1, lists("-1 | 0"), api.OK)
		checkLoops(t, m, greatest, lists("-1 | 0"), api.OK)
		for _, most := range []int{0, -1, greatest + 1, greatest + 2, 17, 63, 64, 65, 128, 1 << 32, 1<<32 + 1, math.MinInt, math.MaxInt} {
			checkLoops(t, m, most, nil, api.ErrArg)
		}
	}
}

func TestLoopsRefuses(t *testing.T) {
	for _, most := range []int{1, 2, 4, 0, -1, 17, math.MinInt, math.MaxInt} {
		for _, m := range wrongMaps() {
			checkLoops(t, m, most, nil, api.ErrForm)
		}
		for _, m := range irregular() {
			checkLoops(t, m, most, nil, api.ErrArg)
		}
	}
}
