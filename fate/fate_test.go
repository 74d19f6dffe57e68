package fate_test

import (
	"math"
	"math/big"
	"math/rand"
	"slices"
	"strconv"
	"strings"
	"testing"

	"katabasis/api"
	"katabasis/fate"
)

// checkFate checks a call of Fate, twice. The first cycle is spoilt in between: results are new memory.
func checkFate(t *testing.T, m api.Map, n string, most, steps int, cycle []string, want api.Errno) {
	t.Helper()
	given := copyOf(m)
	for range 2 {
		k, c, e := fate.Fate(given, n, most)
		if k != steps || !slices.Equal(c, cycle) || e != want {
			t.Fatalf("Fate(%v, %s, %d): %d, %d numbers (%s), %d instead of %d, %d (%s), %d", m, short(n), most, k, len(c), brief(c), e, steps, len(cycle), brief(cycle), want)
		}
		checkUnchanged(t, m, given)
		clear(c)
	}
}

// checkByDefinition compares Fate with the definition.
func checkByDefinition(t *testing.T, m api.Map, n string, most int) {
	t.Helper()
	steps, cycle, e := fateOf(m, value(n), most)
	checkFate(t, m, n, most, steps, cycle, e)
}

// checkFrom checks a fate with the least most with which there is one, and with others around it.
func checkFrom(t *testing.T, m api.Map, n string, steps int, cycle ...string) {
	t.Helper()
	least := steps + len(cycle)
	for _, most := range []int{least, least + 1, least + 100, api.MaxSteps} {
		checkFate(t, m, n, most, steps, cycle, api.OK)
	}
	for _, most := range []int{0, 1, least / 2, least - 1} {
		if most < least {
			checkFate(t, m, n, most, 0, nil, api.ErrNone)
		}
	}
}

func TestFateOfCollatz(t *testing.T) {
	ofSeventeen := strings.Fields("-136 -68 -34 -17 -25 -37 -55 -82 -41 -61 -91")
	checkFrom(t, collatz(), "7", 10, "1", "2")
	checkFrom(t, collatz(), "0", 0, "0")
	checkFrom(t, collatz(), "-1", 0, "-1")
	checkFrom(t, collatz(), "-2", 1, "-1")
	checkFrom(t, collatz(), "1", 0, "1", "2")
	checkFrom(t, collatz(), "2", 0, "1", "2")
	checkFrom(t, collatz(), "3", 4, "1", "2")
	checkFrom(t, collatz(), "4", 1, "1", "2")
	checkFrom(t, collatz(), "27", 69, "1", "2")
	// The least number is not the first one that comes: it is the last, or between others.
	checkFrom(t, collatz(), "-5", 0, "-10", "-5", "-7")
	checkFrom(t, collatz(), "-7", 0, "-10", "-5", "-7")
	checkFrom(t, collatz(), "-10", 0, "-10", "-5", "-7")
	checkFrom(t, collatz(), "-20", 1, "-10", "-5", "-7")
	for _, n := range ofSeventeen {
		checkFrom(t, collatz(), n, 0, ofSeventeen...)
	}
	checkFrom(t, collatz(), "-272", 1, ofSeventeen...)
	checkFrom(t, collatz(), "-50", 1, ofSeventeen...)
}

// TestFateOfOthers: maps with a cycle for each number or pair, and maps that are not regular.
func TestFateOfOthers(t *testing.T) {
	for _, n := range []string{"0", "1", "-1", "-27", "1000000000000000000000", tens, nines, "-" + tens, "-" + nines} {
		checkFrom(t, shift(0, 0), n, 0, n)
	}
	checkFrom(t, shift(1, -1), "6", 0, "6", "7")
	checkFrom(t, shift(1, -1), "-5", 0, "-6", "-5")
	checkFrom(t, shift(1, 0), "-6", 1, "-5")
	checkFrom(t, kin(5, 1), "13", 0, "13", "33", "83", "208", "104", "52", "26")
	checkFrom(t, kin(1, 1), "1", 0, "1")
	checkFrom(t, api.Map{Mod: 2, Mul: []int{1, 4}, Add: []int{0, 4}}, "5", 5, "1", "4", "2")
	checkFrom(t, slow(), "13", 2, "11")
}

func TestFateByDefinition(t *testing.T) {
	list := maps()
	r := rand.New(rand.NewSource(51))
	for range 40 {
		list = append(list, randomMap(r))
	}
	for _, m := range list {
		for n := -40; n <= 40; n++ {
			for _, most := range []int{0, 1, 2, 3, r.Intn(20), 60} {
				checkByDefinition(t, m, strconv.Itoa(n), most)
			}
		}
		for range 10 {
			n := new(big.Int).Rand(r, new(big.Int).Exp(big.NewInt(10), big.NewInt(int64(1+r.Intn(40))), nil))
			checkByDefinition(t, m, n.String(), 150)
			checkByDefinition(t, m, n.Neg(n).String(), 150)
		}
	}
}

// TestFateAtMaxDigits: numbers of exactly MaxDigits digits, in a cycle, next to one, and such whose orbit leaves them, at once and after a few steps.
func TestFateAtMaxDigits(t *testing.T) {
	below := nines[1:] + "8"
	checkFrom(t, shift(1, -1), nines, 0, below, nines)
	checkFrom(t, shift(1, -1), below, 0, below, nines)
	checkFrom(t, shift(-1, 1), "-"+nines, 0, "-"+nines, "-"+below)
	checkFrom(t, shift(1, 0), below, 1, nines)
	for _, n := range []string{nines, "-" + nines} {
		for _, m := range []api.Map{collatz(), kin(999, -999999)} {
			checkFate(t, m, n, 0, 0, nil, api.ErrNone)
			checkFate(t, m, n, 1, 0, nil, api.ErrSize)
			checkFate(t, m, n, api.MaxSteps, 0, nil, api.ErrSize)
		}
	}
	for distance := range 5 {
		n := plus(nines, -distance)
		checkFate(t, shift(1, 1), n, distance, 0, nil, api.ErrNone)
		checkFate(t, shift(1, 1), n, distance+1, 0, nil, api.ErrSize)
		checkFate(t, shift(1, 1), n, distance+2, 0, nil, api.ErrSize)
		checkFate(t, shift(-1, -1), "-"+n, distance, 0, nil, api.ErrNone)
		checkFate(t, shift(-1, -1), "-"+n, distance+1, 0, nil, api.ErrSize)
	}
	for _, m := range maps() {
		for _, n := range []string{nines, "-" + nines, tens, "-" + tens, "3" + nines[1:], "-2" + tens[1:]} {
			for _, most := range []int{0, 1, 2, 40} {
				checkByDefinition(t, m, n, most)
			}
		}
	}
}

// TestFateLater: an orbit that rises until it has more than MaxDigits digits.
func TestFateLater(t *testing.T) {
	m, n, steps := kin(999, 1), big.NewInt(3), 0
	for v := n; len(v.String()) <= api.MaxDigits; v = mapped(m, v) {
		steps++
	}
	checkFate(t, m, "3", steps-1, 0, nil, api.ErrNone)
	checkFate(t, m, "3", steps, 0, nil, api.ErrSize)
	checkFate(t, m, "3", api.MaxSteps, 0, nil, api.ErrSize)
}

// TestFateAtMaxSteps: a number that occurs again after exactly MaxSteps steps, the one before it in its orbit, and one that never does.
func TestFateAtMaxSteps(t *testing.T) {
	m := slow()
	orbit := []*big.Int{new(big.Int).Exp(big.NewInt(10), big.NewInt(765), nil)}
	for last := orbit[0]; last.Cmp(big.NewInt(11)) > 0; {
		last = mapped(m, last)
		orbit = append(orbit, last)
	}
	if len(orbit) < api.MaxSteps+2 {
		t.Fatalf("the orbit has only %d numbers", len(orbit))
	}
	at := len(orbit) - api.MaxSteps
	checkFate(t, m, orbit[at].String(), api.MaxSteps, api.MaxSteps-1, []string{"11"}, api.OK)
	checkFate(t, m, orbit[at].String(), api.MaxSteps-1, 0, nil, api.ErrNone)
	checkFate(t, m, orbit[at-1].String(), api.MaxSteps, 0, nil, api.ErrNone)
	checkFate(t, shift(1, 1), "-7", api.MaxSteps, 0, nil, api.ErrNone)
}

func TestFateRefuses(t *testing.T) {
	mosts := []int{0, 1, api.MaxSteps, -1, api.MaxSteps + 1, math.MinInt, math.MaxInt}
	for _, most := range mosts {
		for _, n := range wrongNumbers {
			checkFate(t, collatz(), n, most, 0, nil, api.ErrForm)
			checkFate(t, wrongMaps()[0], n, most, 0, nil, api.ErrForm)
		}
		for _, m := range wrongMaps() {
			checkFate(t, m, "7", most, 0, nil, api.ErrForm)
		}
	}
	for _, most := range []int{-1, api.MaxSteps + 1, math.MinInt, math.MaxInt, 1 << 32} {
		for _, n := range []string{"0", "7", "-1", nines} {
			checkFate(t, collatz(), n, most, 0, nil, api.ErrArg)
		}
	}
}
