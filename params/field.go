package params

import (
	"bytes"

	"caravel/api"
	"caravel/octet"
)

// field is a row of the table, over the field of some parameters.
type field struct {
	number  int
	servers bool // of servers alone
	must    bool // said even if nothing is there
	value   value
}

func (f field) isOf(server bool) bool { return server || !f.servers }

func (f field) mustBeSaid(server bool) bool { return f.must && f.isOf(server) }

// value is a field's value, of one of the kinds that there are.
type value interface {
	allowed() bool      // by the table
	there() bool        // it is not what it is if it is not said
	bytes() []byte      // as they are put
	read(b []byte) bool // takes what was put; false: b are not formed so, or may not be
}

// fields tells the table's rows in the order of their numbers; what is read by them goes into p.
func fields(p *Params) []field {
	unsaid := Default()
	free := func(at *int) value { return numeral{at, 0, api.MaxVar, 0} }
	return []field{
		{number: 0, servers: true, must: true, value: id{&p.Original}},
		{number: 1, value: free(&p.Idle)},
		{number: 2, servers: true, value: reset{&p.Reset, &p.HasReset}},
		{number: 3, value: numeral{&p.Payload, 1200, api.MaxVar, unsaid.Payload}},
		{number: 4, value: free(&p.Data)},
		{number: 5, value: free(&p.BidiLocal)},
		{number: 6, value: free(&p.BidiRemote)},
		{number: 7, value: free(&p.Uni)},
		{number: 8, value: numeral{&p.StreamsBidi, 0, 1 << 60, 0}},
		{number: 9, value: numeral{&p.StreamsUni, 0, 1 << 60, 0}},
		{number: 10, value: numeral{&p.Exponent, 0, 20, unsaid.Exponent}},
		{number: 11, value: numeral{&p.Delay, 0, 1<<14 - 1, unsaid.Delay}},
		{number: 12, value: flag{&p.Still}},
		{number: 14, value: numeral{&p.IDs, 2, api.MaxVar, unsaid.IDs}},
		{number: 15, must: true, value: id{&p.First}},
		{number: 16, servers: true, value: optionalID{id{&p.Again}, &p.HasAgain}},
		{number: 32, value: free(&p.Datagram)},
	}
}

// numeral is a number of variable length.
type numeral struct {
	at                  *int
	least, most, unsaid int
}

func (n numeral) allowed() bool { return *n.at >= n.least && *n.at <= n.most }

func (n numeral) there() bool { return *n.at != n.unsaid }

func (n numeral) bytes() []byte {
	b, _ := octet.PutVar(nil, *n.at)
	return b
}

func (n numeral) read(b []byte) bool {
	v, next, e := octet.Var(b, 0)
	*n.at = v
	return e == api.OK && next == len(b) && n.allowed()
}

// id is an identifier.
type id struct{ at *[]byte }

func (i id) allowed() bool { return len(*i.at) <= api.MaxID }

func (i id) there() bool { return len(*i.at) > 0 }

func (i id) bytes() []byte { return *i.at }

func (i id) read(b []byte) bool {
	*i.at = bytes.Clone(b)
	return i.allowed()
}

// optionalID is one that can be there without a byte.
type optionalID struct {
	id
	has *bool
}

func (o optionalID) allowed() bool { return o.id.allowed() && (*o.has || !o.id.there()) }

func (o optionalID) there() bool { return *o.has }

func (o optionalID) read(b []byte) bool {
	*o.has = true
	return o.id.read(b)
}

// reset is the token of a stateless reset, which can be there with all its bytes 0.
type reset struct {
	at  *[16]byte
	has *bool
}

func (r reset) allowed() bool { return *r.has || *r.at == [16]byte{} }

func (r reset) there() bool { return *r.has }

func (r reset) bytes() []byte { return r.at[:] }

func (r reset) read(b []byte) bool {
	*r.has = true
	copy(r.at[:], b)
	return len(b) == len(r.at)
}

// flag is true by being said.
type flag struct{ at *bool }

func (f flag) allowed() bool { return true }

func (f flag) there() bool { return *f.at }

func (f flag) bytes() []byte { return nil }

func (f flag) read(b []byte) bool {
	*f.at = true
	return len(b) == 0
}
