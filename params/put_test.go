package params_test

import (
	"bytes"
	"testing"

	"caravel/api"
	"caravel/octet"
	"caravel/params"
)

// said is parameters and the bytes that are put for them.
type said struct {
	name   string
	server bool
	p      params.Params
	text   string
}

const tokenText = "0102030405060708090a0b0c0d0e0f10"

func puts() []said {
	return []said{
		{"default", false, params.Default(), "0f00"},
		{"default", true, params.Default(), "0000 0f00"},
		{"Idle", false, with(func(p *params.Params) { p.Idle = 30 }), "01011e 0f00"},
		{"Idle", true, with(func(p *params.Params) { p.Idle = 30 }), "0000 01011e 0f00"},
		{"Still", false, with(func(p *params.Params) { p.Still = true }), "0c00 0f00"},
		{"Datagram", false, with(func(p *params.Params) { p.Datagram = 65535 }), "0f00 200480 00ffff"},
		{"Original", true, with(func(p *params.Params) { p.Original = []byte{1, 2, 3} }), "0003010203 0f00"},
		{"First", true, with(func(p *params.Params) { p.First = []byte{1, 2, 3} }), "0000 0f03010203"},
		{"First", false, with(func(p *params.Params) { p.First = []byte{1, 2, 3} }), "0f03010203"},
		{"Again", true, with(func(p *params.Params) { p.Again, p.HasAgain = []byte{1, 2, 3}, true }), "0000 0f00 1003010203"},
		{"Again of no byte", true, with(func(p *params.Params) { p.HasAgain = true }), "0000 0f00 1000"},
		{"Reset", true, with(func(p *params.Params) { p.Reset, p.HasReset = token(), true }), "0000 0210" + tokenText + "0f00"},
		{"Reset of 0", true, with(func(p *params.Params) { p.HasReset = true }), "0000 0210 00000000000000000000000000000000 0f00"},
		{"a client", false, params.Params{
			Idle: 30000, Payload: 1472, Data: 786432, BidiLocal: 524288, BidiRemote: 524289, Uni: 524290, StreamsBidi: 100, StreamsUni: 3,
			Exponent: 10, Delay: 26, Still: true, IDs: 8, Datagram: 1200, First: []byte{0xf1, 0xf2},
		}, "010480007530 030245c0 0404800c0000 050480080000 060480080001 070480080002 08024064 090103 0a010a 0b011a 0c00 0e0108 0f02f1f2 200244b0"},
		{"a server", true, params.Params{
			Idle: 30000, Payload: 1472, Data: 786432, BidiLocal: 524288, BidiRemote: 524289, Uni: 524290, StreamsBidi: 100, StreamsUni: 3,
			Exponent: 10, Delay: 26, Still: true, IDs: 8, Datagram: 1200, Original: []byte{0x0a, 0x0b, 0x0c}, First: []byte{0xf1, 0xf2},
			Again: []byte{0xa1}, HasAgain: true, Reset: token(), HasReset: true,
		}, "00030a0b0c 010480007530 0210" + tokenText + "030245c0 0404800c0000 050480080000 060480080001 070480080002 08024064 090103 0a010a 0b011a 0c00 0e0108 0f02f1f2 1001a1 200244b0"},
	}
}

func wantPut(t *testing.T, name string, p params.Params, server bool, want []byte) {
	t.Helper()
	if b, e := params.Put(p, server); !bytes.Equal(b, want) || e != api.OK {
		t.Errorf("%s: Put(%+v, %v) = % x, %d; want % x", name, p, server, b, int(e), want)
	}
}

func TestP3_2Put(t *testing.T) {
	for _, x := range puts() {
		wantPut(t, x.name, x.p, x.server, hx(t, x.text))
	}
}

// param lays a number and a value, with the length between.
func param(number int, value []byte) []byte {
	b, _ := octet.PutVar(nil, number)
	b, _ = octet.PutVar(b, len(value))
	return append(b, value...)
}

// inOrder lays a parameter ahead of First, or behind it, by its number.
func inOrder(number int, b, first []byte) []byte {
	if number < 15 {
		return append(bytes.Clone(b), first...)
	}
	return append(bytes.Clone(first), b...)
}

// TestP3_2PutNumbers: a number is said in as few bytes as it needs, and not if it is what it is unsaid.
func TestP3_2PutNumbers(t *testing.T) {
	first := []byte{0x0f, 0}
	for _, n := range numerals() {
		for _, v := range append(edges(), n.least, n.most, n.unsaid-1, n.unsaid, n.unsaid+1) {
			if v < n.least || v > n.most {
				continue
			}
			want := first
			if v != n.unsaid {
				value, _ := octet.PutVar(nil, v)
				want = inOrder(n.number, param(n.number, value), first)
			}
			p := with(func(p *params.Params) { *n.at(p) = v })
			wantPut(t, n.name, p, false, want)
			wantPut(t, n.name, p, true, append([]byte{0, 0}, want...))
		}
	}
}

// TestP3_2PutIDs: identifiers of all sizes, told apart from their spare room.
func TestP3_2PutIDs(t *testing.T) {
	for size := range api.MaxID + 1 {
		id := run(size + 9)[:size]
		first := with(func(p *params.Params) { p.First = id })
		wantPut(t, "First", first, false, param(15, id))
		wantPut(t, "First", first, true, append([]byte{0, 0}, param(15, id)...))
		original := with(func(p *params.Params) { p.Original = id })
		wantPut(t, "Original", original, true, append(param(0, id), 15, 0))
		again := with(func(p *params.Params) { p.Again, p.HasAgain = id, true })
		wantPut(t, "Again", again, true, append([]byte{0, 0, 15, 0}, param(16, id)...))
	}
}
