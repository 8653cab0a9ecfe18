package hello_test

import (
	"bytes"
	"math"
	"testing"

	"caravel/api"
	"caravel/hello"
)

func wantBare(t *testing.T, name string, m hello.Message, want []byte) {
	t.Helper()
	if b, e := hello.Bare(m); !bytes.Equal(b, want) || e != api.OK {
		t.Errorf("%s: Bare(%s) = % x, %d; want % x", name, brief(m), cut(b), int(e), cut(want))
	}
}

func wantNoBare(t *testing.T, name string, m hello.Message) {
	t.Helper()
	if b, e := hello.Bare(m); len(b) != 0 || e != api.ErrArg {
		t.Errorf("%s: Bare(%s) = % x, %d; want error %d", name, brief(m), cut(b), int(e), int(api.ErrArg))
	}
}

// TestP11_1Bare: of each kind; the length still counts the binder's bytes.
func TestP11_1Bare(t *testing.T) {
	for _, s := range samples() {
		if s.m.Kind != hello.Client || len(s.m.Ticket) == 0 {
			wantNoBare(t, s.name, s.m)
			continue
		}
		b := hx(t, s.text)
		wantBare(t, s.name, s.m, b[:len(b)-16])
		m := s.m
		m.Binder = handle(0x10)
		wantBare(t, "whatever the binder is", m, b[:len(b)-16])
	}
	m := hello.Message{Kind: hello.Client, Protos: []string{"p"}, Ticket: []byte("t"), Early: true}
	zeros := "0000000000000000000000000000000000000000000000000000000000000000"
	wantBare(t, "written out", m, hx(t, "01 00003a"+zeros+"00 01 0170 0000 03 000174"))
	wantBare(t, "greatest", greatest(hello.Client), laid(greatest(hello.Client))[:6970-16])
}

// TestP11_1BareKind: that it is no client's is named ahead of a kind that is not there.
func TestP11_1BareKind(t *testing.T) {
	some := []int{math.MinInt, math.MaxInt, 1<<32 + hello.Client}
	for kind := -300; kind < 600; kind++ {
		some = append(some, kind)
	}
	for _, kind := range some {
		if kind == hello.Client {
			continue
		}
		m := greatest(hello.Client)
		m.Kind = kind
		wantNoBare(t, "another kind", m)
		wantNoBare(t, "another kind, and wrong", wrong(kind))
		wantNoBare(t, "another kind, and nothing else", hello.Message{Kind: kind})
	}
}

// TestP11_1BareEdges: with a ticket it is answered as by Put, without one never.
func TestP11_1BareEdges(t *testing.T) {
	for _, x := range edges() {
		for _, m := range bases(x.kind) {
			for _, n := range x.sizes {
				x.set(&m, n)
				b, e := hello.Put(m)
				if m.Kind == hello.Client && len(m.Ticket) > 0 && e == api.OK {
					wantBare(t, x.name, m, b[:len(b)-16])
				} else {
					wantNoBare(t, x.name, m)
				}
			}
		}
	}
	m := hello.Message{Kind: hello.Client, Protos: []string{"p"}, Early: true, Binder: handle(1)}
	wantNoBare(t, "without a ticket, wrongly", m)
}
