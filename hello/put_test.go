package hello_test

import (
	"math"
	"slices"
	"testing"

	"caravel/api"
	"caravel/hello"
	"caravel/vault"
)

func TestP11_1Put(t *testing.T) {
	for _, s := range samples() {
		wantPut(t, s.name, s.m, hx(t, s.text))
	}
	wantNoPut(t, "no Protos", hello.Message{Kind: hello.Client}, api.ErrArg)
}

// wrong has all fields, those that have bounds beyond them.
func wrong(kind int) hello.Message {
	return hello.Message{
		Kind: kind, Random: handle(1), Share: handle(2), Name: text(300), Protos: make([]string, 300), Params: run(70000),
		Ticket: run(70000), Binder: handle(3), Early: true, Again: true, Mark: handle(4), Life: -1,
	}
}

// TestP11_1PutOtherFields: fields that a kind does not have are not looked at, however wrong they are.
func TestP11_1PutOtherFields(t *testing.T) {
	for _, s := range samples() {
		m := wrong(s.m.Kind)
		switch s.m.Kind {
		case hello.Client:
			m = s.m
			m.Again, m.Mark, m.Life = true, handle(4), -1
		case hello.Server:
			m.Random, m.Share, m.Again = s.m.Random, s.m.Share, s.m.Again
		case hello.Extensions:
			m.Protos, m.Params, m.Early = s.m.Protos, s.m.Params, s.m.Early
		case hello.Identity:
			m.Name, m.Mark = s.m.Name, s.m.Mark
		case hello.Proof, hello.Finished:
			m.Mark = s.m.Mark
		case hello.Ticket:
			m.Life, m.Ticket, m.Early = s.m.Life, s.m.Ticket, s.m.Early
		}
		wantPut(t, s.name, m, hx(t, s.text))
	}
}

// TestP11_1PutKind: kinds that are not there, ahead of all that is wrong beside.
func TestP11_1PutKind(t *testing.T) {
	some := []int{math.MinInt, math.MaxInt, 1<<32 + hello.Client, 1<<32 + hello.Finished, -1 << 32, 1 << 16, 1<<16 + hello.Proof}
	for kind := -300; kind < 600; kind++ {
		some = append(some, kind)
	}
	for _, kind := range some {
		right := hello.Message{Kind: kind, Name: "srv", Protos: []string{"h3"}, Ticket: run(3)}
		if isKind(kind) {
			wantPut(t, "a kind", right, laid(right))
			continue
		}
		wantNoPut(t, "no kind", right, api.ErrKind)
		wantNoPut(t, "no kind, and wrong", wrong(kind), api.ErrKind)
		wantNoPut(t, "no kind, and nothing else", hello.Message{Kind: kind}, api.ErrKind)
	}
}

// TestP11_1PutEdges: each field alone decides, at and beside its edges.
func TestP11_1PutEdges(t *testing.T) {
	for _, x := range edges() {
		for _, m := range bases(x.kind) {
			for _, n := range x.sizes {
				x.set(&m, n)
				if n < x.least || n > x.most {
					wantNoPut(t, x.name, m, api.ErrArg)
				} else {
					wantPut(t, x.name, m, laid(m))
				}
			}
		}
	}
}

// TestP11_1PutNil: lists without an element may be nil or empty.
func TestP11_1PutNil(t *testing.T) {
	for _, m := range []hello.Message{{Protos: []string{"p"}}, {Protos: []string{"p"}, Params: []byte{}, Ticket: []byte{}}} {
		m.Kind = hello.Client
		wantPut(t, "client", m, laid(hello.Message{Kind: hello.Client, Protos: []string{"p"}}))
		m.Kind = hello.Extensions
		wantPut(t, "extensions", m, laid(hello.Message{Kind: hello.Extensions, Protos: []string{"p"}}))
		m.Kind, m.Protos = hello.Ticket, []string{}
		wantNoPut(t, "ticket", m, api.ErrArg)
		m.Kind = hello.Client
		wantNoPut(t, "client", m, api.ErrArg)
		m.Kind = hello.Extensions
		wantNoPut(t, "extensions", m, api.ErrArg)
	}
}

// TestP11_1PutTexts: names are bytes, whatever they say.
func TestP11_1PutTexts(t *testing.T) {
	for _, s := range []string{"\x00", "\xff\xfe", "\xc3", "é", "a b\n", "\x00\x01\x00"} {
		for _, m := range []hello.Message{
			{Kind: hello.Client, Name: s, Protos: []string{s, s}}, {Kind: hello.Extensions, Protos: []string{s}}, {Kind: hello.Identity, Name: s},
		} {
			wantPut(t, "text", m, laid(m))
			wantRead(t, "text", laid(m), 0, m, len(laid(m)))
		}
	}
}

// TestP11_1PutWithoutTicket: Early, and a Binder of which any byte is not 0, need a ticket; a ticket needs neither.
func TestP11_1PutWithoutTicket(t *testing.T) {
	plain := hello.Message{Kind: hello.Client, Name: "srv", Protos: []string{"h3"}, Params: run(3)}
	var binders []vault.Handle
	for i := range len(vault.Handle{}) {
		var h vault.Handle
		h[i] = 1
		binders = append(binders, h)
	}
	for _, early := range []bool{false, true} {
		for _, binder := range append(binders, vault.Handle{}, handle(0xc0)) {
			m := plain
			m.Early, m.Binder = early, binder
			if early || binder != (vault.Handle{}) {
				wantNoPut(t, "without a ticket", m, api.ErrArg)
				m.Ticket = []byte{}
				wantNoPut(t, "with one of no byte", m, api.ErrArg)
			} else {
				wantPut(t, "without a ticket", m, laid(m))
			}
			m.Ticket = []byte{7}
			wantPut(t, "with a ticket", m, laid(m))
		}
	}
}

// greatest has every field as great as it may be.
func greatest(kind int) hello.Message {
	m := hello.Message{Kind: kind, Random: handle(0xf0), Share: handle(0xe0), Binder: handle(0xc0), Early: true, Again: true, Mark: handle(0xd0), Life: 1<<32 - 1}
	m.Name, m.Params, m.Ticket = text(255), run(4096), run(512)
	m.Protos = slices.Repeat([]string{text(255)}, 8)
	if kind == hello.Extensions {
		m.Protos = m.Protos[:1]
	}
	return m
}

func TestP11_1PutGreatest(t *testing.T) {
	sizes := map[int]int{hello.Client: 6970, hello.Server: 37, hello.Extensions: 4359, hello.Identity: 276, hello.Proof: 20, hello.Finished: 20, hello.Ticket: 523}
	for _, kind := range kinds() {
		m := greatest(kind)
		wantPut(t, "greatest", m, laid(m))
		if b, _ := hello.Put(m); len(b) != sizes[kind] {
			t.Errorf("kind %d: %d bytes", kind, len(b))
		}
	}
}
