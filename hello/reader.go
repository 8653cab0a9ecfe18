package hello

import (
	"bytes"

	"caravel/api"
	"caravel/octet"
	"caravel/vault"
)

// reader goes through a body, and fills in fields. From the first fault on it stands still, and fills in zero values.
type reader struct {
	verdict
	b  []byte
	at int
}

func (r *reader) number(v *int, size, least, most int) {
	got, next, e := octet.Get(r.b, r.at, size)
	r.must(e == api.OK && int(got) >= least && int(got) <= most)
	if !r.wrong {
		*v, r.at = int(got), next
	}
}

func (r *reader) handles(hs ...*vault.Handle) {
	for _, h := range hs {
		copy(h[:], r.take(len(h)))
	}
}

func (r *reader) short(text *string, least int) {
	size := 0
	r.number(&size, 1, least, maxShort)
	*text = string(r.take(size))
}

func (r *reader) long(data *[]byte, least, most int) {
	size := 0
	r.number(&size, 2, least, most)
	*data = bytes.Clone(r.take(size))
}

func (r *reader) protos(names *[]string, count int) {
reading:
	for range count {
		name := ""
		r.short(&name, 1)
		if r.wrong {
			break reading
		}
		*names = append(*names, name)
	}
}

// flags holds bits that are not among them for wrong: they make the number too great.
func (r *reader) flags(set ...*bool) {
	bits := 0
	r.number(&bits, 1, 0, 1<<len(set)-1)
	for i, flag := range set {
		*flag = bits>>i&1 == 1
	}
}

// take tells the next n bytes, as a piece of the body.
func (r *reader) take(n int) []byte {
	r.must(n <= len(r.b)-r.at)
	if r.wrong {
		return nil
	}
	r.at += n
	return r.b[r.at-n : r.at]
}
