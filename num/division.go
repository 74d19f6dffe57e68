package num

// divide returns the quotient and the rest; b is not 0.
func (a natural) divide(b natural) (natural, natural) {
	if a.compare(b) < 0 {
		return nil, a
	}
	if len(b) == 1 {
		quotient, rest := a.divideShort(b[0])
		return quotient, natural{rest}.trimmed()
	}
	return a.divideLong(b)
}

// divideShort returns the quotient and the rest; d is from 1 to 2^31, so that a rest times the base fits a uint64.
func (a natural) divideShort(d uint64) (natural, uint64) {
	quotient := make(natural, len(a))
	rest := uint64(0)
	for i := len(a) - 1; i >= 0; i-- {
		rest = rest*base + a[i]
		quotient[i] = rest / d
		rest %= d
	}
	return quotient.trimmed(), rest
}

// divideLong returns the quotient and the rest; b has at least two limbs, and is at most a.
func (a natural) divideLong(b natural) (natural, natural) {
	// A divisor whose top limb is at least half the base makes a guess of a limb of the quotient too great by one at most (Knuth, The Art of Computer Programming, 4.3.1, algorithm D).
	scale := base / (b[len(b)-1] + 1)
	rest := a.scaled(scale, len(a)+1)
	divisor := b.scaled(scale, len(b))
	quotient := make(natural, len(a)-len(b)+1)
	for i := len(quotient) - 1; i >= 0; i-- {
		window := rest[i : i+len(b)+1]
		limb := guess(window, divisor)
		if takeAway(window, divisor, limb) {
			putBack(window, divisor)
			limb--
		}
		quotient[i] = limb
	}
	rest, _ = rest.trimmed().divideShort(scale)
	return quotient.trimmed(), rest
}

// scaled returns the number times a limb, in a number of limbs that suffices.
func (a natural) scaled(limb uint64, limbs int) natural {
	product := make(natural, limbs)
	carry := uint64(0)
	for i := range product {
		if i < len(a) {
			carry += a[i] * limb
		}
		product[i] = carry % base
		carry /= base
	}
	return product
}

// guess returns the quotient of a window of a rest, which has one limb more than the divisor, or one more than the quotient.
func guess(window, divisor natural) uint64 {
	n := len(divisor)
	head := window[n]*base + window[n-1]
	limb, left := head/divisor[n-1], head%divisor[n-1]
	for left < base && (limb >= base || limb*divisor[n-2] > left*base+window[n-2]) {
		limb--
		left += divisor[n-1]
	}
	return limb
}

// takeAway subtracts the divisor times a limb from the window, and reports whether this was once too often.
func takeAway(window, divisor natural, limb uint64) bool {
	n := len(divisor)
	carry := uint64(0)
	for i, y := range divisor {
		carry += y * limb
		take := carry % base
		carry /= base
		if window[i] < take {
			window[i] += base
			carry++
		}
		window[i] -= take
	}
	tooOften := window[n] < carry
	// What is left, once it is not negative, is less than the divisor.
	window[n] = 0
	return tooOften
}

// putBack adds the divisor to the window; what is carried out of it cancels what takeAway took too much.
func putBack(window, divisor natural) {
	carry := uint64(0)
	for i, y := range divisor {
		carry += window[i] + y
		window[i] = carry % base
		carry /= base
	}
}
