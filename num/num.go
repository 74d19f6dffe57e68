// Package num is layer 1: whole numbers of any length.
package num

import (
	"strings"

	"katabasis/api"
)

// Valid reports whether a string is a valid number.
func Valid(s string) bool {
	digits := strings.TrimPrefix(s, "-")
	if digits == "" || len(digits) > api.MaxDigits {
		return false
	}
	if digits[0] == '0' {
		return s == "0"
	}
	for _, c := range digits {
		if c < '0' || c > '9' {
			return false
		}
	}
	return true
}

// Add returns the sum.
func Add(a, b string) (string, api.Errno) { return combine(a, b, number.plus) }

// Sub returns the difference.
func Sub(a, b string) (string, api.Errno) { return combine(a, b, number.minus) }

// Mul returns the product.
func Mul(a, b string) (string, api.Errno) { return combine(a, b, number.times) }

// Gcd returns the greatest common divisor.
func Gcd(a, b string) (string, api.Errno) { return combine(a, b, number.gcd) }

// Divide returns the quotient and the rest.
func Divide(a, b string) (string, string, api.Errno) {
	x, y, e := readBoth(a, b)
	if e != api.OK {
		return "", "", e
	}
	if !y.positive() {
		return "", "", api.ErrArg
	}
	// A quotient is no longer than a, a rest no longer than b: both are valid.
	quotient, rest := x.divide(y)
	return quotient.text(), rest.text(), api.OK
}

// Compare compares two numbers.
func Compare(a, b string) (int, api.Errno) {
	x, y, e := readBoth(a, b)
	if e != api.OK {
		return 0, e
	}
	return x.compare(y), api.OK
}

// Power returns a power.
func Power(a string, n int) (string, api.Errno) {
	x, e := read(a)
	if e != api.OK {
		return "", e
	}
	if n < 0 || n > api.MaxPower {
		return "", api.ErrArg
	}
	return write(x.power(n))
}

// Rest returns the rest modulo a small number.
func Rest(a string, d int) (int, api.Errno) {
	x, e := read(a)
	if e != api.OK {
		return 0, e
	}
	if d < 1 || d > api.MaxRest {
		return 0, api.ErrArg
	}
	return int(x.rest(uint64(d))), api.OK
}

// combine reads two numbers, and writes what an operation makes of them.
func combine(a, b string, operation func(x, y number) number) (string, api.Errno) {
	x, y, e := readBoth(a, b)
	if e != api.OK {
		return "", e
	}
	return write(operation(x, y))
}
