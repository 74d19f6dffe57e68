package num

import (
	"math/bits"
	"strings"

	"katabasis/api"
)

// number is a whole number; 0 is not negative.
type number struct {
	negative bool
	size     natural
}

// signed returns a number with a sign, if it is not 0.
func signed(negative bool, size natural) number {
	return number{negative && len(size) > 0, size}
}

// read returns the number of a string.
func read(s string) (number, api.Errno) {
	if !Valid(s) {
		return number{}, api.ErrForm
	}
	digits := strings.TrimPrefix(s, "-")
	left := len(digits)
	size := make(natural, (left+baseDigits-1)/baseDigits)
	for _, c := range digits {
		left--
		at := left / baseDigits
		size[at] = size[at]*10 + uint64(c-'0')
	}
	return number{len(digits) < len(s), size.trimmed()}, api.OK
}

// readBoth returns the numbers of two strings.
func readBoth(a, b string) (number, number, api.Errno) {
	x, e := read(a)
	if e != api.OK {
		return number{}, number{}, e
	}
	y, e := read(b)
	if e != api.OK {
		return number{}, number{}, e
	}
	return x, y, api.OK
}

// text returns the string of a number, valid or not.
func (a number) text() string {
	if a.negative {
		return "-" + string(a.size.digits())
	}
	return string(a.size.digits())
}

// write returns the string of a number.
func write(a number) (string, api.Errno) {
	s := a.text()
	if len(strings.TrimPrefix(s, "-")) > api.MaxDigits {
		return "", api.ErrSize
	}
	return s, api.OK
}

func (a number) positive() bool { return !a.negative && len(a.size) > 0 }

func (a number) opposite() number { return signed(!a.negative, a.size) }

func (a number) plus(b number) number {
	if a.negative == b.negative {
		return number{a.negative, a.size.plus(b.size)}
	}
	if a.size.compare(b.size) < 0 {
		return signed(b.negative, b.size.minus(a.size))
	}
	return signed(a.negative, a.size.minus(b.size))
}

func (a number) minus(b number) number { return a.plus(b.opposite()) }

func (a number) times(b number) number {
	return signed(a.negative != b.negative, a.size.times(b.size))
}

// divide returns the quotient and the rest, which is not negative; b is positive.
func (a number) divide(b number) (number, number) {
	quotient, rest := a.size.divide(b.size)
	if a.negative && len(rest) > 0 {
		quotient = quotient.plus(natural{1})
		rest = b.size.minus(rest)
	}
	return signed(a.negative, quotient), number{false, rest}
}

func (a number) compare(b number) int {
	switch {
	case a.negative && b.negative:
		return b.size.compare(a.size)
	case a.negative:
		return -1
	case b.negative:
		return 1
	}
	return a.size.compare(b.size)
}

func (a number) gcd(b number) number {
	x, y := a.size, b.size
	for len(y) > 0 {
		_, rest := x.divide(y)
		x, y = y, rest
	}
	return number{false, x}
}

// power returns a to the power of n, or, if this has more than MaxDigits digits, some number that has, too.
func (a number) power(n int) number {
	result := number{false, natural{1}}
	for i := bits.Len(uint(n)) - 1; i >= 0; i-- {
		result = result.times(result)
		if n>>i&1 == 1 {
			result = result.times(a)
		}
		// The power of the first bits of n is no longer than that of n.
		if len(result.size) > maxLimbs {
			break
		}
	}
	return result
}

// rest returns the rest modulo d, which is from 1 to MaxRest.
func (a number) rest(d uint64) uint64 {
	_, rest := a.size.divideShort(d)
	if a.negative && rest > 0 {
		return d - rest
	}
	return rest
}
