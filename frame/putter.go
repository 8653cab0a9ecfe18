package frame

import (
	"caravel/api"
	"caravel/octet"
)

// putter lays fields behind one another. What it can't lay it leaves out, and says so: so that this is asked for once, behind all fields.
type putter struct {
	b       []byte
	refused bool
}

func (p *putter) numbers(vs ...*int) {
	for _, v := range vs {
		p.number(*v)
	}
}

// number has octet lay each one alone: behind b it would copy b each time.
func (p *putter) number(v int) {
	n, e := octet.PutVar(nil, v)
	p.refused = p.refused || e != api.OK
	p.b = append(p.b, n...)
}

// padding lays one byte less than there are: the first one was the kind.
func (p *putter) padding(count *int) {
	if *count > api.MaxBuffer {
		p.refused = true
		return
	}
	p.b = append(p.b, make([]byte, *count-1)...)
}

func (p *putter) acks(f *api.Frame) {
	if !spansMayBe(f.Acks) {
		p.refused = true
		return
	}
	p.number(f.Acks[0].Last)
	p.number(f.Delay)
	p.number(len(f.Acks) - 1)
	for i, s := range f.Acks {
		if i > 0 {
			p.number(f.Acks[i-1].First - s.Last - 2)
		}
		p.number(s.Last - s.First)
	}
}

func spansMayBe(spans []api.Span) bool {
	if len(spans) < 1 || len(spans) > api.MaxSpans {
		return false
	}
	most := api.MaxVar
	for _, s := range spans {
		if s.First < 0 || s.First > s.Last || s.Last > most {
			return false
		}
		most = s.First - 2
	}
	return true
}

// id is not refused: mayBe has looked at its length.
func (p *putter) id(id *[]byte) {
	p.b = append(p.b, byte(len(*id)))
	p.b = append(p.b, *id...)
}

func (p *putter) array(b []byte) { p.b = append(p.b, b...) }

func (p *putter) counted(data *[]byte) {
	p.number(len(*data))
	p.rest(data)
}

func (p *putter) rest(data *[]byte) {
	if len(*data) > api.MaxBuffer {
		p.refused = true
		return
	}
	p.b = append(p.b, *data...)
}
