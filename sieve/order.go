package sieve

import (
	"cmp"
	"slices"
)

// sortBy sorts a list by some keys: those with the same first key by the second one, and so on.
func sortBy[T any](list []T, keys ...func(T) int) {
	slices.SortFunc(list, func(a, b T) int {
		for _, key := range keys {
			if order := cmp.Compare(key(a), key(b)); order != 0 {
				return order
			}
		}
		return 0
	})
}
