package fate_test

import (
	"math"
	"math/big"
	"math/rand"
	"slices"
	"strconv"
	"testing"

	"katabasis/api"
	"katabasis/fate"
)

// checkSurvey checks a call of Survey, twice. The first result is spoilt in between: results are new memory.
func checkSurvey(t *testing.T, m api.Map, from string, count, most int, counts []api.Count, want api.Errno) {
	t.Helper()
	given := copyOf(m)
	for range 2 {
		c, e := fate.Survey(given, from, count, most)
		if !slices.Equal(c, counts) || e != want {
			t.Fatalf("Survey(%v, %s, %d, %d): %d counts (%s), %d instead of %d (%s), %d", m, short(from), count, most, len(c), brief(c), e, len(counts), brief(counts), want)
		}
		checkUnchanged(t, m, given)
		clear(c)
	}
}

// checkRecords checks a call of Records, twice, in the same way.
func checkRecords(t *testing.T, m api.Map, count, most int, records []api.Record, want api.Errno) {
	t.Helper()
	given := copyOf(m)
	for range 2 {
		r, e := fate.Records(given, count, most)
		if !slices.Equal(r, records) || e != want {
			t.Fatalf("Records(%v, %d, %d): %s, %d instead of %s, %d", m, count, most, brief(r), e, brief(records), want)
		}
		checkUnchanged(t, m, given)
		clear(r)
	}
}

// TestSurveyOfCollatz: the order of the names is that of the numbers, not that of the strings, and the empty name is the last.
func TestSurveyOfCollatz(t *testing.T) {
	m := collatz()
	checkSurvey(t, m, "1", 100, api.MaxSteps, []api.Count{{Name: "1", Many: 100}}, api.OK)
	checkSurvey(t, m, "-20", 41, api.MaxSteps, []api.Count{{Name: "-136", Many: 1}, {Name: "-10", Many: 9}, {Name: "-1", Many: 10}, {Name: "0", Many: 1}, {Name: "1", Many: 20}}, api.OK)
	checkSurvey(t, m, "-20", 41, 10, []api.Count{{Name: "-10", Many: 9}, {Name: "-1", Many: 10}, {Name: "0", Many: 1}, {Name: "1", Many: 13}, {Many: 8}}, api.OK)
	checkSurvey(t, m, "-20", 41, 11, []api.Count{{Name: "-136", Many: 1}, {Name: "-10", Many: 9}, {Name: "-1", Many: 10}, {Name: "0", Many: 1}, {Name: "1", Many: 14}, {Many: 6}}, api.OK)
	checkSurvey(t, m, "-1", 4, 2, []api.Count{{Name: "-1", Many: 1}, {Name: "0", Many: 1}, {Name: "1", Many: 2}}, api.OK)
	checkSurvey(t, m, "-1", 4, 1, []api.Count{{Name: "-1", Many: 1}, {Name: "0", Many: 1}, {Many: 2}}, api.OK)
	checkSurvey(t, m, "-1", 4, 0, []api.Count{{Many: 4}}, api.OK)
}

func TestSurveyOfNone(t *testing.T) {
	for _, m := range maps() {
		for _, from := range []string{"0", "-7", tens, nines, "-" + nines} {
			for _, most := range []int{0, 1, api.MaxSteps} {
				checkSurvey(t, m, from, 0, most, nil, api.OK)
			}
		}
	}
}

// TestSurveyOfNames: a cycle for each number; the names are those of all of them, from below 0 on.
func TestSurveyOfNames(t *testing.T) {
	var counts []api.Count
	for n := -1200; n < 1200; n++ {
		counts = append(counts, api.Count{Name: strconv.Itoa(n), Many: 1})
	}
	checkSurvey(t, shift(0, 0), "-1200", 2400, 1, counts, api.OK)
	checkSurvey(t, shift(0, 0), "-1200", 2400, 0, []api.Count{{Many: 2400}}, api.OK)
}

// TestSurveyByDefinition: orbits that run together, and cycles, of which one number comes to the cycle within the most steps, and others do not.
func TestSurveyByDefinition(t *testing.T) {
	for _, m := range maps() {
		for _, most := range []int{0, 1, 2, 3, 5, 8, 13, 21, 55, 150} {
			for _, from := range []int64{-200, -60, -7, 0, 1, 20} {
				checkSurvey(t, m, strconv.FormatInt(from, 10), 80, most, surveyOf(m, big.NewInt(from), 80, most), api.OK)
			}
		}
	}
	r := rand.New(rand.NewSource(52))
	for range 1500 {
		m, from, count, most := randomMap(r), int64(r.Intn(300)-200), r.Intn(60), r.Intn(30)
		checkSurvey(t, m, strconv.FormatInt(from, 10), count, most, surveyOf(m, big.NewInt(from), count, most), api.OK)
	}
}

// TestSurveyOfLongNumbers: ranges among the numbers of MaxDigits digits, and into and out of them.
func TestSurveyOfLongNumbers(t *testing.T) {
	for _, m := range maps() {
		for _, from := range []string{tens, plus(tens, -3), plus(nines, -7), "-" + nines, plus("-"+tens, -3)} {
			for _, most := range []int{0, 1, 2, 9} {
				checkSurvey(t, m, from, 7, most, surveyOf(m, value(from), 7, most), api.OK)
			}
		}
	}
}

// TestSurveyAtTheEnd: the number after the last one must be valid, too.
func TestSurveyAtTheEnd(t *testing.T) {
	for _, m := range []api.Map{collatz(), shift(0, 0), shift(-1, -1)} {
		for _, count := range []int{1, 2, 5} {
			from := plus(nines, -count)
			checkSurvey(t, m, from, count, 1, surveyOf(m, value(from), count, 1), api.OK)
			checkSurvey(t, m, from, count+1, 1, nil, api.ErrSize)
			checkSurvey(t, m, from, api.MaxSurvey, api.MaxSteps, nil, api.ErrSize)
			checkSurvey(t, m, from, api.MaxSurvey+1, 1, nil, api.ErrArg)
			checkSurvey(t, m, from, count+1, -1, nil, api.ErrArg)
		}
		checkSurvey(t, m, nines, 1, 0, nil, api.ErrSize)
	}
}

// TestSurveyAtTheLimits: the most numbers and the most steps.
func TestSurveyAtTheLimits(t *testing.T) {
	all := []api.Count{{Many: api.MaxSurvey}}
	checkSurvey(t, shift(1, 1), "-9", api.MaxSurvey, api.MaxSteps, all, api.OK)
	checkSurvey(t, shift(-1, -1), "-9", api.MaxSurvey, api.MaxSteps, all, api.OK)
	checkSurvey(t, collatz(), "1", api.MaxSurvey, api.MaxSteps, []api.Count{{Name: "1", Many: api.MaxSurvey}}, api.OK)
	checkSurvey(t, collatz(), "-9999", api.MaxSurvey, 60, surveyOf(collatz(), big.NewInt(-9999), api.MaxSurvey, 60), api.OK)
}

// TestSurveyForgets: more numbers in all than a search remembers. Of four numbers the first one rises for ever, without meeting another one of the range, and the others come to the two in the middle.
func TestSurveyForgets(t *testing.T) {
	m := api.Map{Mod: 4, Mul: []int{4, 4, 4, 4}, Add: []int{999984, 4, -4, -4}}
	var counts []api.Count
	for n := -10000; n < 10000; n += 4 {
		counts = append(counts, api.Count{Name: strconv.Itoa(n + 1), Many: 3})
	}
	counts = append(counts, api.Count{Many: 5000})
	checkSurvey(t, m, "-10000", api.MaxSurvey, 300, counts, api.OK)
}

func TestRecordsOfCollatz(t *testing.T) {
	five := []api.Record{{Number: 1, Steps: 0}, {Number: 3, Steps: 4}, {Number: 6, Steps: 5}, {Number: 7, Steps: 10}, {Number: 9, Steps: 12}}
	m := collatz()
	checkRecords(t, m, 10, api.MaxSteps, five, api.OK)
	checkRecords(t, m, 9, 14, five, api.OK)
	checkRecords(t, m, 9, 13, five[:4], api.OK)
	checkRecords(t, m, 8, 14, five[:4], api.OK)
	checkRecords(t, m, 10, 11, five[:3], api.OK)
	checkRecords(t, m, 1, 2, five[:1], api.OK)
	checkRecords(t, m, 1, 1, nil, api.OK)
	checkRecords(t, m, 1, 0, nil, api.OK)
	checkRecords(t, m, 0, api.MaxSteps, nil, api.OK)
}

// TestRecordsOfOthers: the first number that comes to a cycle is a record, also if it is not 1, and if all of them come after the same steps.
func TestRecordsOfOthers(t *testing.T) {
	checkRecords(t, shift(0, 0), 50, 1, []api.Record{{Number: 1, Steps: 0}}, api.OK)
	checkRecords(t, shift(1, 0), 50, 2, []api.Record{{Number: 1, Steps: 0}, {Number: 2, Steps: 1}}, api.OK)
	checkRecords(t, shift(1, 1), 50, api.MaxSteps, nil, api.OK)
	checkRecords(t, kin(5, 1), 10, 12, recordsOf(kin(5, 1), 10, 12), api.OK)
	// 1 and 2 come to no cycle, as they rise.
	checkRecords(t, kin(999, 9), 40, api.MaxSteps, recordsOf(kin(999, 9), 40, api.MaxSteps), api.OK)
}

func TestRecordsByDefinition(t *testing.T) {
	for _, m := range maps() {
		for _, most := range []int{0, 1, 2, 5, 13, 40, 150} {
			checkRecords(t, m, 120, most, recordsOf(m, 120, most), api.OK)
		}
	}
	r := rand.New(rand.NewSource(53))
	for range 1000 {
		m, count, most := randomMap(r), r.Intn(120), r.Intn(40)
		checkRecords(t, m, count, most, recordsOf(m, count, most), api.OK)
	}
	checkRecords(t, collatz(), api.MaxSurvey, api.MaxSteps, recordsOf(collatz(), api.MaxSurvey, api.MaxSteps), api.OK)
	checkRecords(t, shift(-1, -1), api.MaxSurvey, api.MaxSteps, nil, api.OK)
}

// checkBoth checks that Survey and Records return an error, and no list.
func checkBoth(t *testing.T, m api.Map, from string, count, most int, want api.Errno) {
	t.Helper()
	checkSurvey(t, m, from, count, most, nil, want)
	checkRecords(t, m, count, most, nil, want)
}

func TestSurveyAndRecordsRefuse(t *testing.T) {
	good, bad := []int{0, 1, 20000}, []int{-1, 20001, math.MinInt, math.MaxInt, 1 << 32}
	for _, k := range append(bad, good...) {
		for _, m := range wrongMaps() {
			checkBoth(t, m, "7", k, 1, api.ErrForm)
			checkBoth(t, m, "7", 1, k, api.ErrForm)
		}
		for _, n := range wrongNumbers {
			checkSurvey(t, collatz(), n, k, 1, nil, api.ErrForm)
			checkSurvey(t, collatz(), n, 1, k, nil, api.ErrForm)
			checkSurvey(t, wrongMaps()[0], n, 1, k, nil, api.ErrForm)
		}
	}
	for _, wrong := range bad {
		for _, from := range []string{"0", "-1", nines} {
			for _, k := range good {
				checkBoth(t, collatz(), from, wrong, k, api.ErrArg)
				checkBoth(t, collatz(), from, k, wrong, api.ErrArg)
			}
			checkBoth(t, collatz(), from, wrong, wrong, api.ErrArg)
		}
	}
}
