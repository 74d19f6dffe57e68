package sieve

import (
	"strconv"

	"katabasis/api"
)

// place is a rest modulo div, which is Mod^steps, with the linear map of its word of this length: (mul n + add) / div.
//
// No place is visited below one whose mul is at least MaxRests. So mul is less than MaxMul * MaxRests, and as the size of add is at most MaxAdd * mul * div, all of it fits an int64.
type place struct {
	steps, rest   int
	mul, add, div int64
}

// root returns the place of all numbers, before the first step.
func root() place { return place{mul: 1, div: 1} }

// falls reports whether the word falls.
func (p place) falls() bool { return p.mul < p.div }

// stays reports whether no word falls that begins with this one and is at most as long as those of the rests modulo whole. As each Mul is at least 1, mul only grows along a word.
func (p place) stays(whole int) bool { return p.mul >= int64(whole) || p.div == int64(whole) }

// child returns the t-th of the places into which this one parts after one step more.
func (p place) child(m api.Map, t int) place {
	rest := p.rest + t*int(p.div)
	image := (p.mul*int64(rest) + p.add) / p.div
	mod := int64(m.Mod)
	r := (image%mod + mod) % mod
	mul, add := int64(m.Mul[r]), int64(m.Add[r])
	return place{
		steps: p.steps + 1,
		rest:  rest,
		mul:   mul * p.mul,
		add:   mul*p.add + add*p.div,
		div:   mod * p.div,
	}
}

// restsBelow returns the rests modulo whole of the numbers of this place.
func (p place) restsBelow(whole int) []int {
	var rests []int
	for rest := p.rest; rest < whole; rest += int(p.div) {
		rests = append(rests, rest)
	}
	return rests
}

// fall returns the fall of a place whose word falls.
func (p place) fall() api.Fall {
	return api.Fall{
		Steps: p.steps,
		Rest:  p.rest,
		Line:  api.Line{Mul: decimal(p.mul), Add: decimal(p.add), Div: decimal(p.div)},
		Bound: decimal(floor(p.add, p.div-p.mul)),
	}
}

func decimal(n int64) string { return strconv.FormatInt(n, 10) }

// floor returns the greatest whole number that is at most a / b, for a positive b. The operator / rounds towards 0.
func floor(a, b int64) int64 {
	q := a / b
	if a%b < 0 {
		q--
	}
	return q
}
