package hello

import (
	"caravel/octet"
	"caravel/vault"
)

// putter lays fields behind one another. From the first wrong one on it lays no texts: they may be of any size.
type putter struct {
	verdict
	b []byte
}

func (p *putter) number(v *int, size, least, most int) {
	p.must(*v >= least && *v <= most)
	// Laid alone: behind b octet would copy b each time.
	n, _ := octet.Put(nil, uint64(*v), size)
	p.b = append(p.b, n...)
}

func (p *putter) handles(hs ...*vault.Handle) {
	for _, h := range hs {
		p.b = append(p.b, h[:]...)
	}
}

func (p *putter) short(text *string, least int) {
	size := len(*text)
	p.number(&size, 1, least, maxShort)
	if !p.wrong {
		p.b = append(p.b, *text...)
	}
}

func (p *putter) long(data *[]byte, least, most int) {
	size := len(*data)
	p.number(&size, 2, least, most)
	if !p.wrong {
		p.b = append(p.b, *data...)
	}
}

func (p *putter) protos(names *[]string, count int) {
	p.must(len(*names) == count)
	if p.wrong {
		return
	}
	for _, name := range *names {
		p.short(&name, 1)
	}
}

func (p *putter) flags(set ...*bool) {
	bits := 0
	for i, flag := range set {
		if *flag {
			bits |= 1 << i
		}
	}
	p.number(&bits, 1, 0, 1<<len(set)-1)
}
