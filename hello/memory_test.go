package hello_test

import (
	"bytes"
	"slices"
	"testing"

	"caravel/hello"
	"caravel/vault"
)

// whole tells a slice's memory to the end of its spare room.
func whole[T any](b []T) []T { return b[:cap(b)] }

// spoil writes over a slice, and over its spare room.
func spoil(b []byte) {
	for i := range whole(b) {
		whole(b)[i] ^= 0xff
	}
}

func spoilTexts(names []string) {
	for i := range whole(names) {
		whole(names)[i] = "spoilt"
	}
}

func spoilMessage(m hello.Message) {
	spoil(m.Params)
	spoil(m.Ticket)
	spoilTexts(m.Protos)
}

// roomy tells the same bytes with spare room behind them.
func roomy(b []byte) []byte { return append(slices.Clone(b), "................"...)[:len(b)] }

// roomyMessage tells the same message, its lists with spare room behind them.
func roomyMessage(m hello.Message) hello.Message {
	m.Params, m.Ticket = roomy(m.Params), roomy(m.Ticket)
	m.Protos = append(slices.Clone(m.Protos), "spare", "room")[:len(m.Protos)]
	return m
}

// TestMemoryPut: what is handed in is neither changed nor kept, and no two answers share memory.
func TestMemoryPut(t *testing.T) {
	all := samples()
	for _, kind := range append(kinds(), 7) {
		all = append(all, sample{"wrong", wrong(kind), ""})
	}
	for _, s := range all {
		for _, call := range []func(hello.Message) ([]byte, error){
			func(m hello.Message) ([]byte, error) { b, e := hello.Put(m); return b, e },
			func(m hello.Message) ([]byte, error) { b, e := hello.Bare(m); return b, e },
		} {
			m := roomyMessage(s.m)
			params, ticket, protos := slices.Clone(whole(m.Params)), slices.Clone(whole(m.Ticket)), slices.Clone(whole(m.Protos))
			b, _ := call(m)
			want := bytes.Clone(b)
			again, _ := call(m)
			spoil(b)
			if !bytes.Equal(whole(m.Params), params) || !bytes.Equal(whole(m.Ticket), ticket) || !slices.Equal(whole(m.Protos), protos) {
				t.Errorf("%s: what was handed in changed", s.name)
			}
			spoilMessage(m)
			if !bytes.Equal(again, want) {
				t.Errorf("%s: an answer shares memory", s.name)
			}
			if third, _ := call(s.m); !bytes.Equal(third, want) {
				t.Errorf("%s: something is kept", s.name)
			}
		}
	}
}

// TestMemoryBare: the binder is not handed out in the spare room.
func TestMemoryBare(t *testing.T) {
	for _, s := range samples() {
		if s.m.Kind != hello.Client || s.m.Binder == (vault.Handle{}) {
			continue
		}
		b, _ := hello.Bare(s.m)
		if bytes.Contains(whole(b), s.m.Binder[:]) {
			t.Errorf("%s: the spare room has the binder", s.name)
		}
	}
}

// TestMemoryRead: what is handed in is neither changed nor kept, and what is handed out is new memory.
func TestMemoryRead(t *testing.T) {
	for _, s := range samples() {
		b := roomy(hx(t, s.text))
		kept := slices.Clone(whole(b))
		m, _, _ := hello.Read(b, 0)
		other, _, _ := hello.Read(b, 0)
		spoilMessage(other)
		if !bytes.Equal(whole(b), kept) {
			t.Errorf("%s: what was handed in changed", s.name)
		}
		spoil(b)
		if !same(m, s.m) {
			t.Errorf("%s: an answer shares memory", s.name)
		}
		if bytes.Contains(whole(m.Params), []byte("....")) || bytes.Contains(whole(m.Ticket), []byte("....")) {
			t.Errorf("%s: spare room is handed out", s.name)
		}
	}
	for _, text := range []string{"", "14", "14000010", "14000000", "07000000", "0800000400000000", "080000050170000002"} {
		b := roomy(hx(t, text))
		kept := slices.Clone(whole(b))
		hello.Read(b, 0)
		hello.Read(b, -1)
		hello.Read(b, len(b)+1)
		if !bytes.Equal(whole(b), kept) {
			t.Errorf("%s: what was handed in changed", text)
		}
	}
}

// TestMemoryLists: no two lists of one answer share memory, spare room too.
func TestMemoryLists(t *testing.T) {
	for _, s := range samples() {
		for i := range 3 {
			m, _, _ := hello.Read(hx(t, s.text), 0)
			want := s.m
			switch i {
			case 0:
				spoil(m.Params)
				m.Params = want.Params
			case 1:
				spoil(m.Ticket)
				m.Ticket = want.Ticket
			case 2:
				spoilTexts(m.Protos)
				m.Protos = want.Protos
			}
			if !same(m, want) {
				t.Errorf("%s: two lists share memory", s.name)
			}
		}
	}
}
