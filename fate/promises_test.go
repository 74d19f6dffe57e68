package fate_test

import (
	"math/big"
	"math/rand"
	"slices"
	"strconv"
	"testing"

	"katabasis/api"
	"katabasis/fate"
	"katabasis/num"
	"katabasis/step"
)

// some are numbers of all sizes, most of which come to a cycle by a map that falls.
func some(r *rand.Rand) []string {
	list := []string{"0", "1", "-1", "27", "-17", "1000000000000000000", "-9223372036854775808"}
	for _, digits := range []int64{2, 5, 20, 60} {
		n := new(big.Int).Rand(r, new(big.Int).Exp(big.NewInt(10), big.NewInt(digits), nil))
		list = append(list, n.String(), new(big.Int).Neg(n).String())
	}
	return list
}

// TestCycle is P5.1, as step.Step and step.Run say it.
func TestCycle(t *testing.T) {
	r := rand.New(rand.NewSource(54))
	list, found := maps(), 0
	for range 60 {
		list = append(list, randomMap(r))
	}
	for _, m := range list {
		for _, n := range some(r) {
			steps, cycle, e := fate.Fate(m, n, 700)
			if e != api.OK {
				continue
			}
			found++
			checkCycle(t, m, cycle)
			before, e := step.Run(m, n, max(0, steps-1))
			at, e2 := step.Run(m, n, steps)
			if e != api.OK || e2 != api.OK || !slices.Contains(cycle, at) || steps > 0 && slices.Contains(cycle, before) {
				t.Errorf("Fate(%v, %s): %d, %v, but before %s, and then %s", m, short(n), steps, cycle, before, at)
			}
		}
	}
	if found < 500 {
		t.Errorf("only %d numbers come to a cycle", found)
	}
}

// checkCycle checks that the numbers of a cycle are mapped to one another, are all different, and the first one is the least.
func checkCycle(t *testing.T, m api.Map, cycle []string) {
	t.Helper()
	met := map[string]bool{}
	for i, n := range cycle {
		next, e := step.Step(m, n)
		order, e2 := num.Compare(cycle[0], n)
		if e != api.OK || e2 != api.OK || next != cycle[(i+1)%len(cycle)] || met[n] || i > 0 && order >= 0 {
			t.Errorf("%v: %v is no cycle from its least number on", m, cycle)
			return
		}
		met[n] = true
	}
}

// TestAlong is P5.2: along an orbit, the cycle stays the same, and the steps are one less each time, until it.
func TestAlong(t *testing.T) {
	r := rand.New(rand.NewSource(55))
	for _, m := range append(maps(), randomMap(r), randomMap(r), randomMap(r)) {
		for _, n := range some(r) {
			steps, cycle, e := fate.Fate(m, n, 400)
			if e != api.OK {
				continue
			}
			numbers, e := step.Orbit(m, n, steps+len(cycle))
			if e != api.OK {
				t.Fatalf("Orbit(%v, %s): %d", m, short(n), e)
			}
			for i, x := range numbers {
				k, c, e := fate.Fate(m, x, 400)
				if k != max(0, steps-i) || !slices.Equal(c, cycle) || e != api.OK {
					t.Fatalf("Fate(%v, %s): %d, %v, %d, but after %d steps %d, %v", m, short(n), steps, cycle, e, i, k, c)
				}
			}
		}
	}
}

// sum adds the counts of two surveys by their names.
func sum(a, b []api.Count) map[string]int {
	many := map[string]int{}
	for _, c := range slices.Concat(a, b) {
		many[c.Name] += c.Many
	}
	return many
}

// TestParts is P5.3: wherever a range is parted, also at its ends.
func TestParts(t *testing.T) {
	r := rand.New(rand.NewSource(56))
	list := maps()
	for range 100 {
		list = append(list, randomMap(r))
	}
	for _, m := range list {
		from, count, most := r.Intn(300)-200, r.Intn(150), r.Intn(60)
		whole, e := fate.Survey(m, strconv.Itoa(from), count, most)
		if e != api.OK {
			t.Fatalf("Survey(%v, %d, %d, %d): %d", m, from, count, most, e)
		}
		for _, first := range []int{0, r.Intn(count + 1), r.Intn(count + 1), count} {
			a, e1 := fate.Survey(m, strconv.Itoa(from), first, most)
			b, e2 := fate.Survey(m, strconv.Itoa(from+first), count-first, most)
			many := sum(a, b)
			if e1 != api.OK || e2 != api.OK || len(many) != len(whole) {
				t.Fatalf("Survey(%v, %d, %d, %d): %v, but in parts %v and %v", m, from, count, most, whole, a, b)
			}
			for _, c := range whole {
				if many[c.Name] != c.Many {
					t.Errorf("Survey(%v, %d, %d, %d): %v, but in parts %v and %v", m, from, count, most, whole, a, b)
				}
			}
		}
	}
}

// TestSurveyIsOfFate: Survey and Records say, number by number, what Fate says.
func TestSurveyIsOfFate(t *testing.T) {
	for _, m := range maps() {
		for _, most := range []int{3, 17, 90} {
			var records []api.Record
			for n := -100; n <= 100; n++ {
				steps, cycle, e := fate.Fate(m, strconv.Itoa(n), most)
				want := api.Count{Many: 1}
				if e == api.OK {
					want.Name = cycle[0]
				}
				checkSurvey(t, m, strconv.Itoa(n), 1, most, []api.Count{want}, api.OK)
				if n > 0 && e == api.OK && (len(records) == 0 || steps > records[len(records)-1].Steps) {
					records = append(records, api.Record{Number: n, Steps: steps})
				}
			}
			checkRecords(t, m, 100, most, records, api.OK)
		}
	}
}
