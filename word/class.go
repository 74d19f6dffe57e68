package word

import (
	"strconv"

	"katabasis/api"
	"katabasis/num"
	"katabasis/step"
)

// class is the numbers rest + t * mod, for every whole t: those that have a certain word. The steps of the word lead from each of them to image + t * mul.
type class struct {
	rest, mod, image, mul string
}

// everyNumber returns the class of the empty word.
func everyNumber() class { return class{rest: "0", mod: "1", image: "0", mul: "1"} }

// narrowed returns the class of the word with one rest more, of a regular map.
func (c class) narrowed(m api.Map, r int) (class, api.Errno) {
	t, e := c.first(m.Mod, r)
	if e != api.OK {
		return class{}, e
	}
	// The numbers in question are those of the class that are a multiple of Mod places after the t-th one.
	var k reckoner
	rest := k.plus(c.rest, k.times(t, c.mod))
	image := k.plus(c.image, k.times(t, c.mul))
	image = k.note(step.Step(m, image))
	mod := k.times(c.mod, strconv.Itoa(m.Mod))
	mul := k.times(c.mul, strconv.Itoa(m.Mul[r]))
	if k.failed != api.OK {
		return class{}, k.failed
	}
	return class{rest, mod, image, mul}, api.OK
}

// first returns the least t, from 0 on, for which image + t * mul has the rest r modulo mod. There is one, less than mod, as mul has no common divisor with mod.
func (c class) first(mod, r int) (string, api.Errno) {
	have, e := num.Rest(c.image, mod)
	if e != api.OK {
		return "", e
	}
	more, e := num.Rest(c.mul, mod)
	if e != api.OK {
		return "", e
	}
	for t := range mod {
		if (have+t*more)%mod == r {
			return strconv.Itoa(t), api.OK
		}
	}
	return "", api.ErrNone
}
