package step_test

import (
	"math"
	"math/rand"
	"slices"
	"testing"

	"katabasis/api"
	"katabasis/step"
)

// wrongMaps are maps that are not valid, each in one way.
func wrongMaps() []api.Map {
	ones := func(n int) []int { return slices.Repeat([]int{1}, max(n, 0)) }
	// With all Mul 1, Add takes the rest away.
	adds := func(n int) []int {
		list := []int{}
		for r := range n {
			list = append(list, -r)
		}
		return list
	}
	list := []api.Map{
		{}, {Mod: 2}, {Mod: 2, Mul: []int{}, Add: []int{}}, {Mod: 2, Mul: []int{1, 3}}, {Mod: 2, Add: []int{0, 1}},
		{Mul: []int{1, 3}, Add: []int{0, 1}}, {Mod: 1, Mul: []int{1}, Add: []int{0}}, {Mod: -2, Mul: []int{1, 3}, Add: []int{0, 1}},
		{Mod: math.MinInt, Mul: []int{1, 3}, Add: []int{0, 1}}, {Mod: math.MaxInt, Mul: []int{1, 3}, Add: []int{0, 1}},
		{Mod: api.MaxMod + 1, Mul: ones(13), Add: adds(13)},
		{Mod: 2, Mul: []int{1}, Add: []int{0, 1}}, {Mod: 2, Mul: []int{1, 3, 1}, Add: []int{0, 1}},
		{Mod: 2, Mul: []int{1, 3}, Add: []int{0}}, {Mod: 2, Mul: []int{1, 3}, Add: []int{0, 1, 0}},
		{Mod: 3, Mul: []int{1, 3}, Add: []int{0, 1}}, {Mod: 2, Mul: ones(12), Add: adds(12)},
	}
	// A factor or a summand out of range, with which every number would be mapped to a whole one, or would seem to be.
	for _, mul := range []int{0, -1, -999, 1000, math.MaxInt, math.MinInt} {
		list = append(list, withMul(0, mul))
	}
	for _, mul := range []int{-1, -3, 1001, math.MaxInt, math.MinInt + 1} {
		list = append(list, withMul(1, mul))
	}
	for _, add := range []int{1000000, -1000000, math.MaxInt - 1, math.MinInt} {
		list = append(list, withAdd(0, add))
	}
	for _, add := range []int{1000001, -1000001, math.MaxInt, math.MinInt + 1} {
		list = append(list, withAdd(1, add))
	}
	// A number of the rest would be mapped to a fraction.
	list = append(list, withMul(1, 2), withMul(1, 998), withAdd(0, 1), withAdd(0, -1), withAdd(0, 999999), withAdd(1, 0), withAdd(1, -2), withAdd(1, 999998))
	for r := range 12 {
		for d := 1; d < 12; d++ {
			m := api.Map{Mod: 12, Mul: ones(12), Add: adds(12)}
			m.Add[r] += d
			list = append(list, m)
		}
	}
	return list
}

// withMul is Collatz's map with another factor for a rest.
func withMul(r, mul int) api.Map {
	m := api.Map{Mod: 2, Mul: []int{1, 3}, Add: []int{0, 1}}
	m.Mul[r] = mul
	return m
}

// withAdd is Collatz's map with another summand for a rest.
func withAdd(r, add int) api.Map {
	m := api.Map{Mod: 2, Mul: []int{1, 3}, Add: []int{0, 1}}
	m.Add[r] = add
	return m
}

func TestValid(t *testing.T) {
	for _, m := range maps() {
		if !step.Valid(m) {
			t.Errorf("%v is valid", m)
		}
	}
	for _, m := range wrongMaps() {
		if step.Valid(m) {
			t.Errorf("%v is not valid", m)
		}
	}
	r := rand.New(rand.NewSource(7))
	for range 1000 {
		if m := randomMap(r); !step.Valid(m) {
			t.Errorf("%v is valid", m)
		}
	}
}

// TestValidAtTheLimits: each factor and each summand that is just in range, and the one that follows.
func TestValidAtTheLimits(t *testing.T) {
	for _, c := range []struct {
		m    api.Map
		want bool
	}{
		{withMul(0, 1), true}, {withMul(0, 2), true}, {withMul(0, 0), false}, {withMul(0, 999), true}, {withMul(0, 1000), false},
		{withMul(1, 1), true}, {withMul(1, 2), false}, {withMul(1, -1), false}, {withMul(1, 999), true}, {withMul(1, 1001), false},
		{withAdd(0, 999998), true}, {withAdd(0, 999999), false}, {withAdd(0, 1000000), false}, {withAdd(0, -999998), true}, {withAdd(0, -1000000), false},
		{withAdd(1, 999999), true}, {withAdd(1, 999998), false}, {withAdd(1, 1000001), false}, {withAdd(1, -999999), true}, {withAdd(1, -1000001), false},
	} {
		if got := step.Valid(c.m); got != c.want {
			t.Errorf("Valid(%v): %v", c.m, got)
		}
	}
}

func TestCollatz(t *testing.T) {
	want := api.Map{Mod: 2, Mul: []int{1, 3}, Add: []int{0, 1}}
	first := step.Collatz()
	if !equal(first, want) {
		t.Errorf("Collatz: %v", first)
	}
	first.Mul[1], first.Add[1] = 5, 7
	if second := step.Collatz(); !equal(second, want) {
		t.Errorf("Collatz, after the first one was changed: %v", second)
	}
}

func TestKin(t *testing.T) {
	for _, q := range []int{1, 3, 5, 997, 999} {
		for _, c := range []int{1, -1, 3, -5, 999999, -999999} {
			want := api.Map{Mod: 2, Mul: []int{1, q}, Add: []int{0, c}}
			got, e := step.Kin(q, c)
			if !equal(got, want) || e != api.OK || !step.Valid(got) {
				t.Errorf("Kin(%d, %d): %v, %d", q, c, got, e)
				continue
			}
			got.Mul[0], got.Add[0] = 9, 9
			if again, e := step.Kin(q, c); !equal(again, want) || e != api.OK {
				t.Errorf("Kin(%d, %d), after the first one was changed: %v, %d", q, c, again, e)
			}
		}
	}
	if m, e := step.Kin(3, 1); !equal(m, step.Collatz()) || e != api.OK {
		t.Errorf("Kin(3, 1): %v, %d", m, e)
	}
}

func TestKinOutOfRange(t *testing.T) {
	for _, q := range []int{0, 2, 998, 1000, 1001, -1, -3, math.MaxInt, math.MinInt, math.MinInt + 1} {
		checkNoKin(t, q, 1)
		checkNoKin(t, q, 0)
	}
	for _, c := range []int{0, 2, -2, 999998, 1000000, 1000001, -1000000, -1000001, math.MaxInt, math.MinInt, math.MinInt + 1} {
		checkNoKin(t, 3, c)
		checkNoKin(t, 999, c)
	}
}

func checkNoKin(t *testing.T, q, c int) {
	t.Helper()
	if m, e := step.Kin(q, c); !equal(m, api.Map{}) || e != api.ErrArg {
		t.Errorf("Kin(%d, %d): %v, %d", q, c, m, e)
	}
}

func TestRegular(t *testing.T) {
	for _, c := range []struct {
		m    api.Map
		want bool
	}{
		{step.Collatz(), true}, {withMul(0, 2), false}, {withMul(0, 999), true},
		{api.Map{Mod: 2, Mul: []int{1, 4}, Add: []int{0, 4}}, false},
		{api.Map{Mod: 3, Mul: []int{2, 4, 4}, Add: []int{0, -1, 1}}, true},
		{api.Map{Mod: 3, Mul: []int{2, 4, 999}, Add: []int{0, -1, 0}}, false},
		{api.Map{Mod: 9, Mul: slices.Repeat([]int{6}, 9), Add: []int{0, 3, 6, 0, 3, 6, 0, 3, 6}}, false},
	} {
		if got, e := step.Regular(c.m); got != c.want || e != api.OK {
			t.Errorf("Regular(%v): %v, %d", c.m, got, e)
		}
	}
	for _, m := range wrongMaps() {
		if got, e := step.Regular(m); got || e != api.ErrForm {
			t.Errorf("Regular(%v): %v, %d", m, got, e)
		}
	}
	r := rand.New(rand.NewSource(8))
	for range 3000 {
		m := randomMap(r)
		if got, e := step.Regular(m); got != regular(m) || e != api.OK {
			t.Errorf("Regular(%v): %v, %d", m, got, e)
		}
	}
}

// TestRegularForEachMul: one rest of one modulus, with every factor.
func TestRegularForEachMul(t *testing.T) {
	for mod := 2; mod <= api.MaxMod; mod++ {
		for mul := 1; mul <= api.MaxMul; mul++ {
			m := api.Map{Mod: mod, Mul: slices.Repeat([]int{1}, mod)}
			for r := range mod {
				m.Add = append(m.Add, mod-r)
			}
			m.Mul[0], m.Add[0] = mul, 0
			if got, e := step.Regular(m); got != regular(m) || e != api.OK {
				t.Errorf("Regular(%v): %v, %d", m, got, e)
			}
		}
	}
}

// regular is the definition: no number but 1 divides Mod and a Mul.
func regular(m api.Map) bool {
	for _, mul := range m.Mul {
		for d := 2; d <= m.Mod; d++ {
			if m.Mod%d == 0 && mul%d == 0 {
				return false
			}
		}
	}
	return true
}
