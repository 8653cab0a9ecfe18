package params

import (
	"errors"
	"slices"

	"caravel/api"
	"caravel/octet"
)

// errUnknown is of a parameter that is not in the table, which is passed over.
var errUnknown = errors.New("params: not in the table")

// reader goes through bytes, parameter by parameter.
type reader struct {
	b      []byte
	at     int
	server bool
	came   map[int]struct{} // by their numbers, those too that are not in the table
	rows   []field          // where what is read goes
}

// parameter reads the next one; the error tells what is wrong with it.
func (r *reader) parameter() error {
	number, at, e := octet.Var(r.b, r.at)
	if e != api.OK {
		return e
	}
	size, at, e := octet.Var(r.b, at)
	if e != api.OK {
		return e
	}
	if size > len(r.b)-at {
		return api.ErrEnd
	}
	r.at = at + size
	return r.take(number, r.b[at:r.at])
}

func (r *reader) take(number int, value []byte) error {
	if _, twice := r.came[number]; twice {
		return api.ErrTwice
	}
	r.came[number] = struct{}{}
	i := slices.IndexFunc(r.rows, func(f field) bool { return f.number == number })
	if i < 0 {
		return errUnknown
	}
	if !r.rows[i].isOf(r.server) || !r.rows[i].value.read(value) {
		return api.ErrForm
	}
	return nil
}

// lacksOne tells whether one that must be said was not.
func (r *reader) lacksOne() bool {
	return slices.ContainsFunc(r.rows, func(f field) bool {
		_, came := r.came[f.number]
		return f.mustBeSaid(r.server) && !came
	})
}

// fault tells the number of what is wrong with a parameter: OK if it is passed over.
func fault(err error) api.Errno {
	for _, e := range []api.Errno{api.ErrEnd, api.ErrTwice, api.ErrForm} {
		if errors.Is(err, e) {
			return e
		}
	}
	return api.OK
}
