package fate

import (
	"katabasis/api"
	"katabasis/step"
)

// An orbit of MaxSteps numbers of MaxDigits digits takes some 40 megabytes. A survey of many such orbits must not keep all of them: a search that has met numbers of a total weight of more than maxWeight forgets them before it goes on with the next number. A number weighs a byte for each character, and ownWeight.
const (
	maxWeight = 1 << 26
	ownWeight = 64
)

// search looks for the cycles to which numbers come, and remembers all numbers that it met: where orbits have run together, none of them is followed again.
type search struct {
	m      api.Map
	most   int
	met    map[string]place
	weight int
}

func newSearch(m api.Map, most int) *search {
	return &search{m: m, most: most, met: map[string]place{}}
}

// fate returns what Fate does, for a number that is valid.
func (s *search) fate(n string) (int, []string, api.Errno) {
	start, e := s.placeOf(n), api.OK
	end, steps := start.ahead()
follow:
	for end.cycle == nil {
		switch {
		case steps >= s.most:
			e = api.ErrNone
			break follow
		case end.left:
			e = api.ErrSize
			break follow
		case s.lengthen(end):
			steps++
		default:
			end, steps = start.ahead()
		}
	}
	// An orbit that was followed for another number may be known beyond the most steps of this one.
	if e == api.OK && steps+len(end.cycle) > s.most {
		e = api.ErrNone
	}
	if e != api.OK {
		return 0, nil, e
	}
	return steps, end.cycle, api.OK
}

// placeOf returns the place of a number at which an orbit begins. If it has not been met, a trail begins with it.
func (s *search) placeOf(n string) place {
	if s.weight > maxWeight {
		s.met, s.weight = map[string]place{}, 0
	}
	if p, ok := s.met[n]; ok {
		return p
	}
	return s.add(&trail{}, n)
}

// add appends a number that has not been met to a trail.
func (s *search) add(t *trail, n string) place {
	p := place{t, len(t.numbers)}
	t.numbers = append(t.numbers, n)
	s.met[n] = p
	s.weight += len(n) + ownWeight
	return p
}

// lengthen follows the orbit one step beyond the last number of a trail of which no next place and no cycle are known. It reports whether this leads to a number that has not been met; the trail has it now.
func (s *search) lengthen(t *trail) bool {
	n, e := step.Step(s.m, t.numbers[len(t.numbers)-1])
	if e != api.OK {
		t.left = true
		return false
	}
	p, ok := s.met[n]
	if !ok {
		s.add(t, n)
		return true
	}
	// If the number leads back to the end of this trail, which leads to the number, it is in a cycle.
	if end, _ := p.ahead(); end == t {
		s.mark(turned(p.onward()))
	} else {
		t.next = p
	}
	return false
}

// mark notes a cycle in the trails that have its numbers.
func (s *search) mark(cycle []string) {
	for _, n := range cycle {
		p := s.met[n]
		if p.trail.cycle == nil || p.index < p.trail.entry {
			p.trail.cycle, p.trail.entry = cycle, p.index
		}
	}
}
