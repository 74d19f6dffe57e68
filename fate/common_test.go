package fate_test

import (
	"fmt"
	"math"
	"math/big"
	"math/rand"
	"slices"
	"strings"
	"testing"

	"katabasis/api"
)

// nines is the greatest number; tens is the least one of MaxDigits digits.
var (
	nines = strings.Repeat("9", api.MaxDigits)
	tens  = "1" + strings.Repeat("0", api.MaxDigits-1)
)

// wrongNumbers are strings that are no valid numbers.
var wrongNumbers = []string{"", "-", "-0", "+1", "00", "007", "-01", " 1", "1 ", "1.0", "1/2", "x", "\uff11", nines + "9", "-" + nines + "9", "0" + nines[1:]}

// collatz is Collatz's map.
func collatz() api.Map { return kin(3, 1) }

// kin is the map that halves n or q n + c.
func kin(q, c int) api.Map { return api.Map{Mod: 2, Mul: []int{1, q}, Add: []int{0, c}} }

// shift is the map that adds a summand to even numbers, and another one to odd numbers.
func shift(even, odd int) api.Map {
	return api.Map{Mod: 2, Mul: []int{2, 2}, Add: []int{2 * even, 2 * odd}}
}

// slow is the map that takes a twelfth away, rounded down. The numbers from 0 to 11 stay as they are.
func slow() api.Map {
	m := api.Map{Mod: 12, Mul: slices.Repeat([]int{11}, 12)}
	for r := range 12 {
		m.Add = append(m.Add, r)
	}
	return m
}

// permutation is a map by which no two orbits run together (Collatz's original one).
func permutation() api.Map {
	return api.Map{Mod: 4, Mul: []int{6, 3, 6, 3}, Add: []int{0, 1, 0, -1}}
}

// maps are valid maps: with a few cycles and with one for each number, with orbits that fall, rise, and only run together, regular and not, and with Mod, Mul and Add at their limits.
func maps() []api.Map {
	return []api.Map{
		collatz(), kin(3, -1), kin(3, 5), kin(5, 1), kin(5, -3), kin(1, 1), kin(1, -999999), kin(999, 999999), kin(181, 1),
		shift(0, 0), shift(1, -1), shift(-1, 1), shift(1, 1), shift(-1, -1), shift(2, -3), shift(1, 0),
		slow(), permutation(),
		{Mod: 2, Mul: []int{1, 4}, Add: []int{0, 4}},
		{Mod: 3, Mul: []int{1, 1, 1}, Add: []int{0, -1, -2}},
		{Mod: 3, Mul: []int{2, 4, 4}, Add: []int{0, -1, 1}},
		{Mod: 3, Mul: []int{3, 3, 3}, Add: []int{3, 3, -6}},
		{Mod: 10, Mul: []int{1, 3, 7, 9, 11, 13, 17, 19, 21, 23}, Add: []int{0, 7, -4, 3, 6, -5, 8, 7, -8, 3}},
		{Mod: 12, Mul: slices.Repeat([]int{1}, 12), Add: []int{-12, 11, 10, -3, -4, -5, -6, 5, -8, -9, 14, -11}},
		{Mod: 12, Mul: slices.Repeat([]int{12}, 12), Add: []int{12, 12, 12, 12, 12, 12, 12, 12, 12, 12, 12, -132}},
		{Mod: 12, Mul: []int{1, 5, 7, 11, 999, 1, 2, 3, 4, 6, 8, 12}, Add: []int{0, 7, 10, 3, 0, 7, 0, 3, 4, 6, 4, 0}},
		{Mod: 12, Mul: slices.Repeat([]int{12}, 12), Add: slices.Repeat([]int{-999996}, 12)},
	}
}

// wrongMaps are maps that are not valid, each in one way.
func wrongMaps() []api.Map {
	tooMany := api.Map{Mod: api.MaxMod + 1, Mul: slices.Repeat([]int{13}, 13), Add: slices.Repeat([]int{0}, 13)}
	list := []api.Map{
		{}, {Mod: 2}, {Mul: []int{1, 3}, Add: []int{0, 1}}, {Mod: 1, Mul: []int{1}, Add: []int{0}}, {Mod: -2, Mul: []int{1, 3}, Add: []int{0, 1}},
		{Mod: math.MinInt, Mul: []int{1, 3}, Add: []int{0, 1}}, {Mod: math.MaxInt, Mul: []int{1, 3}, Add: []int{0, 1}}, tooMany,
		{Mod: 2, Mul: []int{1, 3}}, {Mod: 2, Add: []int{0, 1}}, {Mod: 3, Mul: []int{1, 3}, Add: []int{0, 1}},
		{Mod: 2, Mul: []int{1}, Add: []int{0, 1}}, {Mod: 2, Mul: []int{1, 3, 1}, Add: []int{0, 1}},
		{Mod: 2, Mul: []int{1, 3}, Add: []int{0}}, {Mod: 2, Mul: []int{1, 3}, Add: []int{0, 1, 0}},
		{Mod: 2, Mul: []int{0, 3}, Add: []int{0, 1}}, {Mod: 2, Mul: []int{1, 3}, Add: []int{1000000, 1}}, {Mod: 2, Mul: []int{1, 3}, Add: []int{-1, 1}},
	}
	for _, mul := range []int{0, -1, -3, 2, 1000, 1001, math.MaxInt, math.MinInt} {
		list = append(list, api.Map{Mod: 2, Mul: []int{1, mul}, Add: []int{0, 1}})
	}
	for _, add := range []int{0, -2, 1000001, -1000001, math.MaxInt, math.MinInt + 1} {
		list = append(list, api.Map{Mod: 2, Mul: []int{1, 3}, Add: []int{0, add}})
	}
	return list
}

// randomMap returns a map whose Muls are mostly at most Mod, so that most numbers come to a cycle.
func randomMap(r *rand.Rand) api.Map {
	m := api.Map{Mod: 2 + r.Intn(api.MaxMod-1)}
	most := []int{1, 12, 40}[r.Intn(3)]
	greatest := m.Mod + r.Intn(m.Mod)
	for rest := range m.Mod {
		mul, add := 1+r.Intn(greatest), r.Intn(2*most+1)-most
		for (mul*rest+add)%m.Mod != 0 {
			add++
		}
		m.Mul, m.Add = append(m.Mul, mul), append(m.Add, add)
	}
	return m
}

// mapped is the number to which a number is mapped, straight by the definition.
func mapped(m api.Map, n *big.Int) *big.Int {
	mod := big.NewInt(int64(m.Mod))
	// Mod of package big is never negative.
	r := new(big.Int).Mod(n, mod).Int64()
	x := new(big.Int).Mul(big.NewInt(int64(m.Mul[r])), n)
	return x.Quo(x.Add(x, big.NewInt(int64(m.Add[r]))), mod)
}

// fateOf is the fate of a number, straight by the definition.
func fateOf(m api.Map, n *big.Int, most int) (int, []string, api.Errno) {
	var numbers []string
	met := map[string]int{}
	for i := range most + 1 {
		s := n.String()
		if len(strings.TrimPrefix(s, "-")) > api.MaxDigits {
			return 0, nil, api.ErrSize
		}
		if t, ok := met[s]; ok {
			return t, leastFirst(numbers[t:]), api.OK
		}
		met[s] = i
		numbers = append(numbers, s)
		n = mapped(m, n)
	}
	return 0, nil, api.ErrNone
}

// leastFirst turns a list of numbers until its least one is the first.
func leastFirst(list []string) []string {
	for at := range list {
		turned := append(slices.Clone(list[at:]), list[:at]...)
		if !slices.ContainsFunc(list, func(s string) bool { return value(s).Cmp(value(turned[0])) < 0 }) {
			return turned
		}
	}
	return nil
}

// surveyOf is the survey of a range, straight by the definition.
func surveyOf(m api.Map, from *big.Int, count, most int) []api.Count {
	var names []string
	many := map[string]int{}
	for i := range count {
		_, cycle, e := fateOf(m, new(big.Int).Add(from, big.NewInt(int64(i))), most)
		name := ""
		if e == api.OK {
			name = cycle[0]
		}
		if many[name]++; name != "" && many[name] == 1 {
			names = append(names, name)
		}
	}
	slices.SortFunc(names, func(a, b string) int { return value(a).Cmp(value(b)) })
	if many[""] > 0 {
		names = append(names, "")
	}
	var counts []api.Count
	for _, name := range names {
		counts = append(counts, api.Count{Name: name, Many: many[name]})
	}
	return counts
}

// recordsOf are the records up to a number, straight by the definition.
func recordsOf(m api.Map, count, most int) []api.Record {
	var records []api.Record
	for n := 1; n <= count; n++ {
		steps, _, e := fateOf(m, big.NewInt(int64(n)), most)
		if e == api.OK && (len(records) == 0 || steps > records[len(records)-1].Steps) {
			records = append(records, api.Record{Number: n, Steps: steps})
		}
	}
	return records
}

func value(s string) *big.Int {
	v, ok := new(big.Int).SetString(s, 10)
	if !ok {
		panic("no number: " + s)
	}
	return v
}

// plus is a number and a few more.
func plus(s string, more int) string {
	return new(big.Int).Add(value(s), big.NewInt(int64(more))).String()
}

// short cuts a string, so that a message can be read.
func short(s string) string {
	if len(s) <= 60 {
		return s
	}
	return s[:30] + ".." + s[len(s)-28:]
}

// brief is a list, cut so that a message can be read.
func brief(list any) string {
	s := fmt.Sprint(list)
	return s[:min(len(s), 300)]
}

// checkUnchanged checks that a map is as it was before.
func checkUnchanged(t *testing.T, before, m api.Map) {
	t.Helper()
	if m.Mod != before.Mod || !slices.Equal(m.Mul, before.Mul) || !slices.Equal(m.Add, before.Add) {
		t.Fatalf("the argument %v has become %v", before, m)
	}
}

func copyOf(m api.Map) api.Map {
	return api.Map{Mod: m.Mod, Mul: slices.Clone(m.Mul), Add: slices.Clone(m.Add)}
}
