package hello_test

import (
	"bytes"
	"fmt"
	"math"
	"slices"
	"testing"

	"caravel/api"
	"caravel/hello"
	"caravel/vault"
)

// TestP11_2Read: alone, behind other bytes, and with others behind it.
func TestP11_2Read(t *testing.T) {
	for _, s := range samples() {
		b := hx(t, s.text)
		wantRead(t, s.name, b, 0, s.m, len(b))
		for _, ahead := range []int{1, 3, 4, 100} {
			wantRead(t, s.name+" behind", join(run(ahead), b), ahead, s.m, ahead+len(b))
		}
		for _, behind := range [][]byte{{0}, {0xff}, run(4), run(300), b} {
			wantRead(t, s.name+" ahead", join(b, behind), 0, s.m, len(b))
			wantRead(t, s.name+" between", join(run(7), b, behind), 7, s.m, 7+len(b))
		}
	}
}

// TestP11_2ReadRow: one message behind the other, from place to place.
func TestP11_2ReadRow(t *testing.T) {
	var row []byte
	for _, s := range samples() {
		row = append(row, hx(t, s.text)...)
	}
	at := 0
	for _, s := range samples() {
		next := at + len(hx(t, s.text))
		wantRead(t, s.name, row, at, s.m, next)
		at = next
	}
	wantNoRead(t, "behind the last", row, at, api.ErrEnd)
}

func TestP11_2ReadPlace(t *testing.T) {
	right := hx(t, samples()[0].text)
	for _, b := range [][]byte{nil, {}, {1}, {7, 0, 0, 0}, {7, 0, 0, 9}, {0x14, 0, 0, 0}, {0x14, 0, 0, 16}, right, join(right, right)} {
		n := len(b)
		for _, at := range []int{math.MinInt, -1 << 32, -n - 1, -4, -1, n + 1, n + 4, n + 1<<32, math.MaxInt - 3, math.MaxInt} {
			wantNoRead(t, "no place", b, at, api.ErrArg)
		}
		wantNoRead(t, "at the length", b, n, api.ErrEnd)
		roomy := append(slices.Clone(b), right...)[:n]
		wantNoRead(t, "in the spare room", roomy, n+1, api.ErrArg)
		wantNoRead(t, "at the spare room", roomy, n, api.ErrEnd)
	}
}

// TestP11_2ReadEnd: cut off at each byte, whatever lies behind the length.
func TestP11_2ReadEnd(t *testing.T) {
	all := samples()
	all = append(all, sample{"greatest", greatest(hello.Client), fmt.Sprintf("%x", laid(greatest(hello.Client)))})
	for _, s := range all {
		b := hx(t, s.text)
		for n := range b {
			wantNoRead(t, s.name+" cut", b[:n], 0, api.ErrEnd)
			wantNoRead(t, s.name+" cut", bytes.Clone(b[:n]), 0, api.ErrEnd)
			wantNoRead(t, s.name+" cut, behind others", join(run(9), b[:n]), 9, api.ErrEnd)
		}
	}
	for _, text := range []string{"14 000011" + markText, "14 000110" + markText, "14 010010" + markText, "14 ffffff" + markText, "01 ffffff", "08 000001", "0f 00", "02"} {
		wantNoRead(t, "more is said than there is", hx(t, text), 0, api.ErrEnd)
	}
}

// TestP11_2ReadKind: kinds that are not there; what is not whole is told ahead, a body that is not formed behind.
func TestP11_2ReadKind(t *testing.T) {
	bodies := [][]byte{nil, {0}, run(16), run(70)}
	for _, s := range samples() {
		bodies = append(bodies, hx(t, s.text)[4:])
	}
	for kind := range 256 {
		for _, body := range bodies {
			b := message(kind, body)
			if isKind(kind) {
				wantModel(t, "a kind", b, 0)
				continue
			}
			wantNoRead(t, "no kind", b, 0, api.ErrKind)
			wantNoRead(t, "no kind, others behind", join(b, run(30)), 0, api.ErrKind)
			wantNoRead(t, "no kind, behind others", join(run(3), b), 3, api.ErrKind)
			for n := range b {
				wantNoRead(t, "no kind, and cut", b[:n], 0, api.ErrEnd)
			}
		}
		if !isKind(kind) {
			wantNoRead(t, "no kind, and too little", []byte{byte(kind), 0, 0, 1}, 0, api.ErrEnd)
			wantNoRead(t, "no kind, and no place", []byte{byte(kind), 0, 0, 0}, 5, api.ErrArg)
		}
	}
}

// TestP11_2ReadBody: a body that ends too soon, or has more, whatever stands behind the message.
func TestP11_2ReadBody(t *testing.T) {
	for _, s := range samples() {
		b := hx(t, s.text)
		body := b[4:]
		for n := range body {
			early := message(s.m.Kind, body[:n])
			wantNoRead(t, s.name+" ends too soon", early, 0, api.ErrForm)
			wantNoRead(t, s.name+" ends too soon, the rest behind it", join(early, body[n:]), 0, api.ErrForm)
			wantNoRead(t, s.name+" ends too soon, behind others", join(b, early, b), len(b), api.ErrForm)
		}
		for _, more := range [][]byte{{0}, {1}, run(2), run(16), make([]byte, 300), make([]byte, 70000), body, b} {
			wantNoRead(t, s.name+" has more", message(s.m.Kind, join(body, more)), 0, api.ErrForm)
		}
	}
	for _, kind := range kinds() {
		wantNoRead(t, "no body", message(kind, nil), 0, api.ErrForm)
		wantNoRead(t, "the greatest body", message(kind, make([]byte, 1<<24-1)), 0, api.ErrForm)
	}
}

// flagged tells the place of a message's flags: ahead of a client's ticket, or last; -1 if the kind has none.
func flagged(m hello.Message, b []byte) int {
	switch m.Kind {
	case hello.Client:
		if len(m.Ticket) > 0 {
			return len(b) - 16 - len(m.Ticket) - 3
		}
		fallthrough
	case hello.Server, hello.Extensions, hello.Ticket:
		return len(b) - 1
	}
	return -1
}

// TestP11_2ReadFlags: all bits, of which those must be 0 that the table does not name.
func TestP11_2ReadFlags(t *testing.T) {
	for _, s := range samples() {
		b := hx(t, s.text)
		at := flagged(s.m, b)
		if at < 0 {
			continue
		}
		for bits := range 256 {
			b[at] = byte(bits)
			want, ok := s.m, bits <= 1
			switch s.m.Kind {
			case hello.Client:
				want.Early = bits == 3
				ok = bits == 0 && len(want.Ticket) == 0 || (bits == 1 || bits == 3) && len(want.Ticket) > 0
			case hello.Server:
				want.Again = bits == 1
			default:
				want.Early = bits == 1
			}
			if ok {
				wantRead(t, s.name, b, 0, want, len(b))
			} else {
				wantNoRead(t, s.name+" with other flags", b, 0, api.ErrForm)
			}
		}
	}
}

// TestP11_2ReadNoTicket: a flag that says there is one, ahead of one of no byte.
func TestP11_2ReadNoTicket(t *testing.T) {
	ahead := laid(hello.Message{Kind: hello.Client, Name: "srv", Protos: []string{"h3"}, Params: run(3)})
	ahead = ahead[4 : len(ahead)-1]
	for _, flags := range []byte{0, 1, 2, 3} {
		for _, binder := range [][]byte{make([]byte, 16), run(16), nil} {
			body := join(ahead, []byte{flags, 0, 0}, binder)
			wantNoRead(t, "a ticket of no byte", message(hello.Client, body), 0, api.ErrForm)
		}
	}
	wantRead(t, "none", message(hello.Client, join(ahead, []byte{0})), 0, hello.Message{Kind: hello.Client, Name: "srv", Protos: []string{"h3"}, Params: run(3)}, 4+len(ahead)+1)
	wantNoRead(t, "Early without one", message(hello.Client, join(ahead, []byte{2})), 0, api.ErrForm)
	wantNoRead(t, "a binder without one", message(hello.Client, join(ahead, []byte{0}, run(16))), 0, api.ErrForm)
}

// canSay tells whether a field of that size can be said in the bytes that it has for it.
func canSay(x edge, n int) bool {
	switch x.name {
	case "Ticket's Life":
		return n >= 0 && n < 1<<32
	case "Client's Params", "Extensions' Params", "Client's Ticket", "Ticket's Ticket":
		return n < 1<<16
	}
	return n < 1<<8
}

// TestP11_2ReadEdges: each field alone decides, at and beside its edges.
func TestP11_2ReadEdges(t *testing.T) {
	for _, x := range edges() {
		for _, m := range bases(x.kind) {
			for _, n := range x.sizes {
				if !canSay(x, n) {
					continue
				}
				x.set(&m, n)
				b := laid(m)
				if n < x.least || n > x.most {
					wantNoRead(t, x.name, b, 0, api.ErrForm)
					wantNoRead(t, x.name+", and cut", b[:len(b)-1], 0, api.ErrEnd)
				} else {
					wantRead(t, x.name, b, 0, m, len(b))
				}
			}
		}
	}
	for _, kind := range kinds() {
		want := hello.Message{Kind: kind}
		m := greatest(kind)
		switch kind {
		case hello.Client:
			want = m
			want.Again, want.Mark, want.Life = false, vault.Handle{}, 0
		case hello.Server:
			want.Random, want.Share, want.Again = m.Random, m.Share, true
		case hello.Extensions:
			want.Protos, want.Params, want.Early = m.Protos, m.Params, true
		case hello.Identity:
			want.Name, want.Mark = m.Name, m.Mark
		case hello.Proof, hello.Finished:
			want.Mark = m.Mark
		case hello.Ticket:
			want.Life, want.Ticket, want.Early = m.Life, m.Ticket, true
		}
		wantRead(t, "greatest", laid(m), 0, want, len(laid(m)))
	}
}

// TestP11_2ReadProtos: a count that is not that of the names, and names of no byte in each place.
func TestP11_2ReadProtos(t *testing.T) {
	for count := range 11 {
		for said := range 256 {
			m := hello.Message{Kind: hello.Client, Name: "srv", Protos: texts(count)}
			b := laid(m)
			b[4+32+4] = byte(said)
			if said == count && count >= 1 && count <= 8 {
				wantRead(t, "protos", b, 0, m, len(b))
			} else {
				wantNoRead(t, fmt.Sprintf("%d protos, %d said", count, said), b, 0, api.ErrForm)
			}
		}
		for place := range count {
			m := hello.Message{Kind: hello.Client, Name: "srv", Protos: texts(count)}
			m.Protos[place] = ""
			wantNoRead(t, "a proto of no byte", laid(m), 0, api.ErrForm)
		}
	}
}

// TestP11_2ReadFirstThatApplies: ErrArg, ErrEnd, ErrKind, ErrForm, in that order.
func TestP11_2ReadFirstThatApplies(t *testing.T) {
	for _, x := range []struct {
		text string
		at   int
		want api.Errno
	}{
		{"14 000010", 0, api.ErrEnd},
		{"14 000000", 0, api.ErrForm},
		{"07 000000", 0, api.ErrKind},
		{"", 0, api.ErrEnd},
		{"", 1, api.ErrArg},
		{"", -1, api.ErrArg},
		{"07 000001", 0, api.ErrEnd},
		{"07 000001", 5, api.ErrArg},
		{"07 000001 00", 0, api.ErrKind},
		{"07", 0, api.ErrEnd},
		{"14 000001", 0, api.ErrEnd},
		{"14 000001 00", 0, api.ErrForm},
		{"00 000000", 0, api.ErrKind},
		{"00 000000", 1, api.ErrEnd},
		{"ff 000000", 0, api.ErrKind},
		{"ff ffffff", 0, api.ErrEnd},
		{"ff ffffff", -1, api.ErrArg},
		{"08 000004 00 0000 00", 0, api.ErrForm},
		{"08 000005 01 70 0000 02", 0, api.ErrForm},
		{"08 000005 01 70 0000", 0, api.ErrEnd},
		{"09 000005 01 70 0000", 0, api.ErrEnd},
		{"09 000005 01 70 0000 00", 0, api.ErrKind},
	} {
		wantNoRead(t, x.text, hx(t, x.text), x.at, x.want)
	}
}
