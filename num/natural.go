package num

import (
	"cmp"
	"slices"
	"strconv"

	"katabasis/api"
)

// The base is a power of ten, so that numbers are read and written in one pass. A product of two limbs and a few limbs more fit a uint64.
const (
	baseDigits = 9
	base       = 1_000_000_000
	maxLimbs   = (api.MaxDigits + baseDigits - 1) / baseDigits
)

// natural is a number that is not negative: its digits (limbs) to the base, the lowest one first, without zeros at the end. The methods never change their operands.
type natural []uint64

// trimmed returns the number without zeros at the end.
func (a natural) trimmed() natural {
	for len(a) > 0 && a[len(a)-1] == 0 {
		a = a[:len(a)-1]
	}
	return a
}

// digits returns the decimal digits.
func (a natural) digits() []byte {
	if len(a) == 0 {
		return []byte{'0'}
	}
	top := len(a) - 1
	text := make([]byte, 0, len(a)*baseDigits)
	text = strconv.AppendUint(text, a[top], 10)
	for i := top - 1; i >= 0; i-- {
		text = appendLimb(text, a[i])
	}
	return text
}

// appendLimb appends all digits of a limb, with the zeros in front.
func appendLimb(text []byte, limb uint64) []byte {
	end := len(text) + baseDigits
	text = append(text, "000000000"...)
	for i := end - 1; limb > 0; i-- {
		text[i] += byte(limb % 10)
		limb /= 10
	}
	return text
}

func (a natural) compare(b natural) int {
	if len(a) != len(b) {
		return cmp.Compare(len(a), len(b))
	}
	for i := len(a) - 1; i >= 0; i-- {
		if a[i] != b[i] {
			return cmp.Compare(a[i], b[i])
		}
	}
	return 0
}

func (a natural) plus(b natural) natural {
	if len(a) < len(b) {
		a, b = b, a
	}
	sum := make(natural, len(a)+1)
	carry := uint64(0)
	for i, x := range a {
		carry += x
		if i < len(b) {
			carry += b[i]
		}
		sum[i] = carry % base
		carry /= base
	}
	sum[len(a)] = carry
	return sum.trimmed()
}

// minus returns the difference; b is at most a.
func (a natural) minus(b natural) natural {
	difference := slices.Clone(a)
	borrow := uint64(0)
	for i := range difference {
		if i >= len(b) && borrow == 0 {
			break
		}
		take := borrow
		if i < len(b) {
			take += b[i]
		}
		borrow = 0
		if difference[i] < take {
			difference[i] += base
			borrow = 1
		}
		difference[i] -= take
	}
	return difference.trimmed()
}

func (a natural) times(b natural) natural {
	product := make(natural, len(a)+len(b))
	for i, x := range a {
		carry := uint64(0)
		for j, y := range b {
			carry += product[i+j] + x*y
			product[i+j] = carry % base
			carry /= base
		}
		product[i+len(b)] = carry
	}
	return product.trimmed()
}
