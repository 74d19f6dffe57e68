package step

import (
	"iter"
	"strconv"

	"katabasis/api"
	"katabasis/num"
)

// shortLength is how long the string of a number may be, so that MaxMul times the number and MaxAdd more fit an int64.
const shortLength = 15

// after returns the numbers after 1 to k steps, to be ranged over: each with OK, but if one is not valid, an error stands in its place, and it is the last one.
func after(m api.Map, n string, k int) iter.Seq2[string, api.Errno] {
	return func(yield func(string, api.Errno) bool) {
		x := n
		for range k {
			y, e := next(m, x)
			if !yield(y, e) || e != api.OK {
				return
			}
			x = y
		}
	}
}

// next returns the number to which a number is mapped. Most numbers of a search are short, and then strings of digits would take most of the time.
func next(m api.Map, n string) (string, api.Errno) {
	if len(n) <= shortLength {
		return nextOfShort(m, n)
	}
	return nextOfLong(m, n)
}

func nextOfShort(m api.Map, n string) (string, api.Errno) {
	x, err := strconv.ParseInt(n, 10, 64)
	if err != nil {
		return "", api.ErrForm
	}
	mod := int64(m.Mod)
	r := (x%mod + mod) % mod
	y := (int64(m.Mul[r])*x + int64(m.Add[r])) / mod
	return strconv.FormatInt(y, 10), api.OK
}

func nextOfLong(m api.Map, n string) (string, api.Errno) {
	// Mul * n may be too long where the result is not. So n is divided first: for n = Mod * q + r the result is Mul * q + (Mul * r + Add) / Mod.
	q, rest, e := num.Divide(n, strconv.Itoa(m.Mod))
	if e != api.OK {
		return "", e
	}
	r, err := strconv.Atoi(rest)
	if err != nil {
		return "", api.ErrForm
	}
	return timesPlus(m.Mul[r], q, (m.Mul[r]*r+m.Add[r])/m.Mod)
}

// timesPlus returns mul * q + add; mul is from 1 to MaxMul. If the signs of q and add differ, mul * q may be too long where the result is not. So the last q is added at the end: if add is less than q in size, what comes before is no longer than the result, or than add; if not, all of it is short.
func timesPlus(mul int, q string, add int) (string, api.Errno) {
	product, e := num.Mul(strconv.Itoa(mul-1), q)
	if e != api.OK {
		return "", e
	}
	sum, e := num.Add(product, strconv.Itoa(add))
	if e != api.OK {
		return "", e
	}
	return num.Add(sum, q)
}
