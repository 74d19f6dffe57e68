package cycle

import (
	"strconv"
	"strings"

	"katabasis/api"
	"katabasis/num"
	"katabasis/word"
)

// fixed returns the fraction that a word of a regular map, which is not empty, leads to itself. Its denominator is greater than 0, but it is not reduced.
func fixed(m api.Map, w []int) (api.Frac, api.Errno) {
	// No number is too long here, or in what follows: MaxWord rests with a Mul of at most MaxMul make some 610 digits.
	line, e := word.Line(m, w)
	if e != api.OK {
		return api.Frac{}, e
	}
	// From (Mul x + Add) / Div = x comes x = Add / (Div - Mul). Its denominator is not 0: Mul has no common divisor with Div but 1.
	den, e := num.Sub(line.Div, line.Mul)
	if e != api.OK {
		return api.Frac{}, e
	}
	size, negative := strings.CutPrefix(den, "-")
	if !negative {
		return api.Frac{Num: line.Add, Den: den}, api.OK
	}
	opposite, e := num.Sub("0", line.Add)
	if e != api.OK {
		return api.Frac{}, e
	}
	return api.Frac{Num: opposite, Den: size}, api.OK
}

// reduced returns a fraction whose denominator is greater than 0 in its reduced form.
func reduced(x api.Frac) (api.Frac, api.Errno) {
	divisor, e := num.Gcd(x.Num, x.Den)
	if e != api.OK {
		return api.Frac{}, e
	}
	top, _, e := num.Divide(x.Num, divisor)
	if e != api.OK {
		return api.Frac{}, e
	}
	bottom, _, e := num.Divide(x.Den, divisor)
	if e != api.OK {
		return api.Frac{}, e
	}
	return api.Frac{Num: top, Den: bottom}, api.OK
}

// next returns the fraction to which the step of its rest r leads from a fraction of a cycle.
func next(m api.Map, x api.Frac, r int) (api.Frac, api.Errno) {
	add, e := num.Mul(strconv.Itoa(m.Add[r]), x.Den)
	if e != api.OK {
		return api.Frac{}, e
	}
	// Num / Den is mapped to (Mul Num + Add Den) / Mod over Den. The first of these is a whole number, so each denominator of a cycle divides the one before, all around the cycle: they are all the same, and nothing is left to reduce.
	line := api.Line{Mul: strconv.Itoa(m.Mul[r]), Add: add, Div: strconv.Itoa(m.Mod)}
	top, _, e := word.Apply(line, x.Num)
	if e != api.OK {
		return api.Frac{}, e
	}
	return api.Frac{Num: top, Den: x.Den}, api.OK
}
