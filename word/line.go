package word

import (
	"strconv"
	"strings"

	"katabasis/api"
	"katabasis/num"
)

// lineOfNoStep returns the linear map of the empty word, which leads each number to itself.
func lineOfNoStep() api.Line { return api.Line{Mul: "1", Add: "0", Div: "1"} }

// lineOfStep returns the linear map of a word of one rest.
func lineOfStep(m api.Map, r int) api.Line {
	return api.Line{Mul: strconv.Itoa(m.Mul[r]), Add: strconv.Itoa(m.Add[r]), Div: strconv.Itoa(m.Mod)}
}

// timesPlus returns mul * n + add. The product alone may be too long where the sum is not. So half of the product is added to add, and then the other half: if n is not negative, no number on the way is longer than the longest one of mul, add and the sum.
func timesPlus(mul, n, add string) (string, api.Errno) {
	var c reckoner
	if size, negative := strings.CutPrefix(n, "-"); negative {
		mul, n = c.minus("0", mul), size
	}
	half, odd, e := num.Divide(n, "2")
	if e != api.OK {
		return "", e
	}
	part := c.times(mul, half)
	sum := c.plus(part, add)
	sum = c.plus(sum, part)
	sum = c.plus(sum, c.times(mul, odd))
	if c.failed != api.OK {
		return "", c.failed
	}
	return sum, api.OK
}
