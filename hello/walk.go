package hello

import (
	"caravel/api"
	"caravel/vault"
)

// The greatest that the document's table lets be.
const (
	maxShort  = 255 // bytes of a short text
	maxProtos = 8
	maxParams = 4096 // bytes
	maxLife   = 1<<32 - 1
)

// kinds holds which kinds of messages there are.
func kinds() map[int]struct{} {
	return map[int]struct{}{
		Client:     {},
		Server:     {},
		Extensions: {},
		Identity:   {},
		Proof:      {},
		Finished:   {},
		Ticket:     {},
	}
}

func isKind(kind int) bool {
	_, known := kinds()[kind]
	return known
}

// parts goes through fields one behind the other: a putter lays their bytes, a reader fills them in. So the order of a kind's fields, and their bounds, stand in one place.
type parts interface {
	must(ok bool) // if it does not hold, the message may not be
	number(v *int, size, least, most int)
	handles(hs ...*vault.Handle)
	short(text *string, least int)
	long(data *[]byte, least, most int)
	protos(names *[]string, count int)
	flags(set ...*bool) // from the lowest bit on
}

// walk goes through the body of a message of a kind that there is.
func walk(p parts, m *Message) {
	switch m.Kind {
	case Client:
		walkClient(p, m)
	case Server:
		p.handles(&m.Random, &m.Share)
		p.flags(&m.Again)
	case Extensions:
		p.protos(&m.Protos, 1)
		p.long(&m.Params, 0, maxParams)
		p.flags(&m.Early)
	case Identity:
		p.short(&m.Name, 0)
		fallthrough
	case Proof, Finished:
		p.handles(&m.Mark)
	case Ticket:
		p.number(&m.Life, 4, 0, maxLife)
		p.long(&m.Ticket, 1, api.MaxToken)
		p.flags(&m.Early)
	}
}

func walkClient(p parts, m *Message) {
	p.handles(&m.Random, &m.Share)
	p.short(&m.Name, 0)
	count := len(m.Protos)
	p.number(&count, 1, 1, maxProtos)
	p.protos(&m.Protos, count)
	p.long(&m.Params, 0, maxParams)
	ticket := len(m.Ticket) > 0
	p.flags(&ticket, &m.Early)
	if !ticket {
		p.must(!m.Early && m.Binder == vault.Handle{})
		return
	}
	// One of no byte is none: then the flag would not say so.
	p.long(&m.Ticket, 1, api.MaxToken)
	p.handles(&m.Binder)
}

// verdict keeps that something was not as it must be: so that this is asked for once, behind all fields.
type verdict struct{ wrong bool }

func (v *verdict) must(ok bool) { v.wrong = v.wrong || !ok }
