package fate

// trail is a part of an orbit: numbers that follow one another, and that no other trail has. So each number is met once, however many orbits have it.
type trail struct {
	numbers []string
	// next is the place in another trail to which the last number is mapped, once this is known.
	next place
	// left says that the last number is mapped to one that is not valid.
	left bool
	// cycle is the cycle in which the numbers from the index entry on are, once one is known to be in any.
	cycle []string
	entry int
}

// place is the place of a number in a trail.
type place struct {
	trail *trail
	index int
}

// ahead follows what is known of the orbit of a number, to the trail in which it comes to its cycle, or else to the last one. It returns this trail, and the steps to the first number in the cycle, or else to the last number.
func (p place) ahead() (*trail, int) {
	t, at, steps := p.trail, p.index, 0
	for t.cycle == nil && t.next.trail != nil {
		steps += len(t.numbers) - at
		t, at = t.next.trail, t.next.index
	}
	if t.cycle != nil {
		return t, steps + max(0, t.entry-at)
	}
	return t, steps + len(t.numbers) - 1 - at
}

// onward returns the numbers from a place on, as far as they are known.
func (p place) onward() []string {
	var numbers []string
	for ; p.trail != nil; p = p.trail.next {
		numbers = append(numbers, p.trail.numbers[p.index:]...)
	}
	return numbers
}
