package fate

import (
	"maps"
	"slices"

	"katabasis/api"
	"katabasis/num"
)

// turned returns the numbers of a cycle from the least one on.
func turned(cycle []string) []string {
	least := slices.Index(cycle, slices.MinFunc(cycle, compare))
	return slices.Concat(cycle[least:], cycle[:least])
}

// counts returns how many numbers come to each cycle, in the order of their names, and at last how many come to none.
func counts(many map[string]int, none int) []api.Count {
	var list []api.Count
	for _, name := range slices.SortedFunc(maps.Keys(many), compare) {
		list = append(list, api.Count{Name: name, Many: many[name]})
	}
	if none > 0 {
		list = append(list, api.Count{Many: none})
	}
	return list
}

// compare compares numbers that are valid.
func compare(a, b string) int {
	order, e := num.Compare(a, b)
	if e != api.OK {
		return 0
	}
	return order
}
