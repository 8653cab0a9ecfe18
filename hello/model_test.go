package hello_test

import (
	"bytes"
	"slices"
	"testing"

	"caravel/api"
	"caravel/hello"
	"caravel/vault"
)

func short(text string) []byte { return append([]byte{byte(len(text))}, text...) }

func long(data []byte) []byte {
	return append([]byte{byte(len(data) >> 8), byte(len(data))}, data...)
}

// flag tells a bit, if it is set.
func flag(set bool, bit byte) byte {
	if set {
		return bit
	}
	return 0
}

// message tells a kind, how many bytes the body has, and the body.
func message(kind int, body []byte) []byte {
	n := len(body)
	return append([]byte{byte(kind), byte(n >> 16), byte(n >> 8), byte(n)}, body...)
}

// laid tells a message's bytes by the table, line by line, whether it may be or not.
func laid(m hello.Message) []byte {
	var body []byte
	switch m.Kind {
	case hello.Client:
		body = join(m.Random[:], m.Share[:], short(m.Name), []byte{byte(len(m.Protos))})
		for _, p := range m.Protos {
			body = append(body, short(p)...)
		}
		ticket := len(m.Ticket) > 0
		body = join(body, long(m.Params), []byte{flag(ticket, 1) | flag(m.Early, 2)})
		if ticket {
			body = join(body, long(m.Ticket), m.Binder[:])
		}
	case hello.Server:
		body = join(m.Random[:], m.Share[:], []byte{flag(m.Again, 1)})
	case hello.Extensions:
		for _, p := range m.Protos {
			body = append(body, short(p)...)
		}
		body = join(body, long(m.Params), []byte{flag(m.Early, 1)})
	case hello.Identity:
		body = join(short(m.Name), m.Mark[:])
	case hello.Proof, hello.Finished:
		body = m.Mark[:]
	case hello.Ticket:
		life := []byte{byte(m.Life >> 24), byte(m.Life >> 16), byte(m.Life >> 8), byte(m.Life)}
		body = join(life, long(m.Ticket), []byte{flag(m.Early, 1)})
	}
	return message(m.Kind, body)
}

// mayBe tells the table's last column.
func mayBe(m hello.Message) bool {
	names := !slices.ContainsFunc(m.Protos, func(p string) bool { return len(p) < 1 || len(p) > 255 })
	switch m.Kind {
	case hello.Client:
		ticket := len(m.Ticket) > 0 || !m.Early && m.Binder == vault.Handle{}
		return ticket && names && len(m.Protos) >= 1 && len(m.Protos) <= 8 && len(m.Name) <= 255 && len(m.Params) <= 4096 && len(m.Ticket) <= 512
	case hello.Extensions:
		return names && len(m.Protos) == 1 && len(m.Params) <= 4096
	case hello.Identity:
		return len(m.Name) <= 255
	case hello.Ticket:
		return m.Life >= 0 && m.Life <= 0xffffffff && len(m.Ticket) >= 1 && len(m.Ticket) <= 512
	}
	return true
}

// parsed fills in a message of a body; a body that ends too soon makes it panic.
func parsed(kind int, body []byte) hello.Message {
	rest := slices.Clip(body)
	take := func(n int) []byte {
		piece := rest[:n:n]
		rest = rest[n:]
		return piece
	}
	handle := func() vault.Handle { return vault.Handle(take(16)) }
	one := func() int { return int(take(1)[0]) }
	two := func() int { return one()<<8 | one() }
	m := hello.Message{Kind: kind}
	switch kind {
	case hello.Client:
		m.Random, m.Share, m.Name = handle(), handle(), string(take(one()))
		for range one() {
			m.Protos = append(m.Protos, string(take(one())))
		}
		m.Params = take(two())
		flags := one()
		m.Early = flags&2 != 0
		if flags&1 != 0 {
			m.Ticket, m.Binder = take(two()), handle()
		}
	case hello.Server:
		m.Random, m.Share, m.Again = handle(), handle(), one() == 1
	case hello.Extensions:
		m.Protos, m.Params, m.Early = []string{string(take(one()))}, take(two()), one() == 1
	case hello.Identity:
		m.Name, m.Mark = string(take(one())), handle()
	case hello.Proof, hello.Finished:
		m.Mark = handle()
	case hello.Ticket:
		high, low := two(), two()
		m.Life, m.Ticket, m.Early = high<<16|low, take(two()), one() == 1
	}
	return m
}

// modelRead tells what Read must: a body is formed so if what it says is laid as it stands.
func modelRead(b []byte, at int) (m hello.Message, next int, e api.Errno) {
	if at < 0 || at > len(b) {
		return m, 0, api.ErrArg
	}
	if len(b)-at < 4 {
		return m, 0, api.ErrEnd
	}
	next = at + 4 + int(b[at+1])<<16 + int(b[at+2])<<8 + int(b[at+3])
	if next > len(b) {
		return m, 0, api.ErrEnd
	}
	if !isKind(int(b[at])) {
		return m, 0, api.ErrKind
	}
	defer func() {
		if recover() != nil {
			m, next, e = hello.Message{}, 0, api.ErrForm
		}
	}()
	m = parsed(int(b[at]), b[at+4:next])
	if !mayBe(m) || !bytes.Equal(laid(m), b[at:next]) {
		return hello.Message{}, 0, api.ErrForm
	}
	return m, next, api.OK
}

// wantModel holds Read against the model, and tells whether a message was read.
func wantModel(t *testing.T, name string, b []byte, at int) bool {
	t.Helper()
	m, next, e := modelRead(b, at)
	if e != api.OK {
		wantNoRead(t, name, b, at, e)
		return false
	}
	wantRead(t, name, b, at, m, next)
	wantPut(t, name+", as it stood", m, b[at:next])
	return true
}

// TestModel: the model itself has the samples as they are written out.
func TestModel(t *testing.T) {
	for _, s := range samples() {
		if b := hx(t, s.text); !bytes.Equal(laid(s.m), b) || !mayBe(s.m) || !same(parsed(s.m.Kind, b[4:]), s.m) {
			t.Errorf("%s: % x", s.name, laid(s.m))
		}
	}
}
