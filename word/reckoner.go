package word

import (
	"katabasis/api"
	"katabasis/num"
)

// reckoner computes with numbers in several operations, and keeps the first error of them, so that it is looked at once, at the end.
type reckoner struct{ failed api.Errno }

// note returns the result of an operation, and keeps its error.
func (r *reckoner) note(s string, e api.Errno) string {
	if r.failed == api.OK {
		r.failed = e
	}
	return s
}

func (r *reckoner) plus(a, b string) string { return r.note(num.Add(a, b)) }

func (r *reckoner) minus(a, b string) string { return r.note(num.Sub(a, b)) }

func (r *reckoner) times(a, b string) string { return r.note(num.Mul(a, b)) }
