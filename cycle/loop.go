package cycle

import (
	"cmp"
	"iter"
	"slices"

	"katabasis/api"
	"katabasis/num"
	"katabasis/step"
)

// primitiveWords returns the primitive words of at most `most` rests, to be ranged over: of each and the words that begin at its other rests only the one that comes first in order, as all of them have the same cycle. A word is overwritten by the next one.
//
// Each word is made of the one before (Duval): it is repeated up to the greatest length, the greatest rests at its end are taken away, and the last one of what remains is raised by 1.
func primitiveWords(mod, most int) iter.Seq[[]int] {
	return func(yield func([]int) bool) {
		word := make([]int, 1, most)
		for yield(word) {
			for i := 0; len(word) < most; i++ {
				word = append(word, word[i])
			}
			for word[len(word)-1] == mod-1 {
				word = word[:len(word)-1]
				if len(word) == 0 {
					return
				}
			}
			word[len(word)-1]++
		}
	}
}

// loopOf returns the loop of a primitive word, if the fraction that it leads to itself is an integer.
func loopOf(m api.Map, word []int) (api.Loop, bool, api.Errno) {
	x, e := fixed(m, word)
	if e != api.OK {
		return api.Loop{}, false, e
	}
	n, rest, e := num.Divide(x.Num, x.Den)
	if e != api.OK || rest != "0" {
		return api.Loop{}, false, e
	}
	numbers, e := step.Orbit(m, n, len(word)-1)
	if e != api.OK {
		return api.Loop{}, false, e
	}
	least := slices.Index(numbers, slices.MinFunc(numbers, compare))
	return api.Loop{Numbers: slices.Concat(numbers[least:], numbers[:least])}, true, api.OK
}

// inOrder compares loops by their lengths, and then by their least numbers.
func inOrder(a, b api.Loop) int {
	return cmp.Or(cmp.Compare(len(a.Numbers), len(b.Numbers)), compare(a.Numbers[0], b.Numbers[0]))
}

// compare compares numbers that are valid, so that there is no error.
func compare(a, b string) int {
	order, _ := num.Compare(a, b)
	return order
}
