package frame

import (
	"bytes"

	"caravel/api"
	"caravel/octet"
)

// reader goes through a packet's bytes, and fills in fields. From the first fault on it stands still, and fills in zero values: so that faults are asked for once, behind all fields.
type reader struct {
	b   []byte
	at  int
	err error
}

// fail keeps the first fault: those behind it follow from zero values.
func (r *reader) fail(err error) {
	if r.err == nil {
		r.err = err
	}
}

// kind reads a kind as it stands: one that is not known, or too wide, too, as the fault names it.
func (r *reader) kind() int {
	kind, next, e := octet.Var(r.b, r.at)
	if e != api.OK {
		r.fail(e)
		return 0
	}
	if n, _ := octet.Size(kind); n < next-r.at {
		r.fail(errWide)
	}
	if !isKind(kind) {
		r.fail(api.ErrKind)
	}
	r.at = next
	return kind
}

// padding counts the byte ahead, too: it was the kind.
func (r *reader) padding(count *int) {
	*count = 1
	for r.at < len(r.b) && r.b[r.at] == 0 {
		*count++
		r.at++
	}
}

func (r *reader) numbers(vs ...*int) {
	for _, v := range vs {
		*v = r.number()
	}
}

func (r *reader) number() int {
	if r.err != nil {
		return 0
	}
	v, next, e := octet.Var(r.b, r.at)
	if e != api.OK {
		r.fail(e)
		return 0
	}
	r.at = next
	return v
}

func (r *reader) acks(f *api.Frame) {
	last := r.number()
	f.Delay = r.number()
	further := r.number()
	if further >= api.MaxSpans {
		r.fail(api.ErrBig)
	}
	f.Acks = r.spans(last, further)
}

// spans stops at the first fault: no more is read, or kept, than the packet has.
func (r *reader) spans(last, further int) []api.Span {
	first := r.down(last, 0)
	spans := []api.Span{{First: first, Last: last}}
	for range further {
		last = r.down(first, 2)
		first = r.down(last, 0)
		if r.err != nil {
			return nil
		}
		spans = append(spans, api.Span{First: first, Last: last})
	}
	return spans
}

// down reads how far the next number lies below from less a step.
func (r *reader) down(from, step int) int {
	v := from - r.number() - step
	if v < 0 {
		r.fail(api.ErrForm)
	}
	return v
}

func (r *reader) id(id *[]byte) {
	var size [1]byte
	r.array(size[:])
	*id = bytes.Clone(r.take(int(size[0])))
}

func (r *reader) array(b []byte) { copy(b, r.take(len(b))) }

func (r *reader) counted(data *[]byte) {
	*data = bytes.Clone(r.take(r.number()))
}

func (r *reader) rest(data *[]byte) {
	*data = bytes.Clone(r.take(len(r.b) - r.at))
}

// take tells the next n bytes, as a piece of the packet.
func (r *reader) take(n int) []byte {
	if r.err != nil {
		return nil
	}
	if n > len(r.b)-r.at {
		r.fail(api.ErrEnd)
		return nil
	}
	piece := r.b[r.at : r.at+n]
	r.at += n
	return piece
}
