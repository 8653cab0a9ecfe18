package params_test

import (
	"bytes"
	"encoding/hex"
	"math"
	"strings"
	"testing"

	"caravel/api"
	"caravel/params"
)

// hx reads bytes to the base 16, parted by spaces at will.
func hx(t *testing.T, text string) []byte {
	t.Helper()
	b, err := hex.DecodeString(strings.ReplaceAll(text, " ", ""))
	if err != nil {
		t.Fatal(text, err)
	}
	return b
}

// run tells n bytes, each another.
func run(n int) []byte {
	b := make([]byte, n)
	for i := range b {
		b[i] = byte(i + 1)
	}
	return b
}

func with(change func(p *params.Params)) params.Params {
	p := params.Default()
	change(&p)
	return p
}

// same holds bytes against each other by what they are: none may be nil or empty.
func same(a, b params.Params) bool {
	return a.Idle == b.Idle && a.Payload == b.Payload && a.Data == b.Data &&
		a.BidiLocal == b.BidiLocal && a.BidiRemote == b.BidiRemote && a.Uni == b.Uni &&
		a.StreamsBidi == b.StreamsBidi && a.StreamsUni == b.StreamsUni &&
		a.Exponent == b.Exponent && a.Delay == b.Delay && a.Still == b.Still &&
		a.IDs == b.IDs && a.Datagram == b.Datagram &&
		bytes.Equal(a.Original, b.Original) && bytes.Equal(a.First, b.First) && bytes.Equal(a.Again, b.Again) &&
		a.HasAgain == b.HasAgain && a.Reset == b.Reset && a.HasReset == b.HasReset
}

// numeral is a row of the chapter's table whose value is a number.
type numeral struct {
	name                string
	number              int
	least, most, unsaid int
	at                  func(p *params.Params) *int
}

func numerals() []numeral {
	return []numeral{
		{"Idle", 1, 0, api.MaxVar, 0, func(p *params.Params) *int { return &p.Idle }},
		{"Payload", 3, 1200, api.MaxVar, 65527, func(p *params.Params) *int { return &p.Payload }},
		{"Data", 4, 0, api.MaxVar, 0, func(p *params.Params) *int { return &p.Data }},
		{"BidiLocal", 5, 0, api.MaxVar, 0, func(p *params.Params) *int { return &p.BidiLocal }},
		{"BidiRemote", 6, 0, api.MaxVar, 0, func(p *params.Params) *int { return &p.BidiRemote }},
		{"Uni", 7, 0, api.MaxVar, 0, func(p *params.Params) *int { return &p.Uni }},
		{"StreamsBidi", 8, 0, 1 << 60, 0, func(p *params.Params) *int { return &p.StreamsBidi }},
		{"StreamsUni", 9, 0, 1 << 60, 0, func(p *params.Params) *int { return &p.StreamsUni }},
		{"Exponent", 10, 0, 20, 3, func(p *params.Params) *int { return &p.Exponent }},
		{"Delay", 11, 0, 16383, 25, func(p *params.Params) *int { return &p.Delay }},
		{"IDs", 14, 2, api.MaxVar, 2, func(p *params.Params) *int { return &p.IDs }},
		{"Datagram", 32, 0, api.MaxVar, 0, func(p *params.Params) *int { return &p.Datagram }},
	}
}

// edges are the numbers at and beside all edges that the chapter and octet name.
func edges() []int {
	out := []int{math.MinInt, math.MinInt + 1, -65527, -2, -1, math.MaxInt - 1, math.MaxInt}
	for _, v := range []int{0, 2, 3, 20, 25, 1 << 6, 1200, 1 << 14, 65527, 1 << 30, 1 << 32, 1 << 60, 1 << 61, api.MaxVar} {
		out = append(out, v-1, v, v+1)
	}
	return out
}

// token is one of a reset, with each byte another.
func token() [16]byte { return [16]byte(run(16)) }

func wantCheck(t *testing.T, name string, p params.Params, server bool, want api.Errno) {
	t.Helper()
	if e := params.Check(p, server); e != want {
		t.Errorf("%s: Check(%+v, %v) = %d; want %d", name, p, server, int(e), int(want))
	}
	b, e := params.Put(p, server)
	if e != want || e != api.OK && len(b) != 0 {
		t.Errorf("%s: Put(%+v, %v) = % x, %d; want %d", name, p, server, b, int(e), int(want))
	}
}

func TestP3_1Default(t *testing.T) {
	want := params.Params{Payload: 65527, Exponent: 3, Delay: 25, IDs: 2}
	if p := params.Default(); !same(p, want) {
		t.Errorf("Default() = %+v", p)
	}
	for _, server := range []bool{false, true} {
		wantCheck(t, "default", params.Default(), server, api.OK)
		wantCheck(t, "zero", params.Params{}, server, api.ErrArg)
	}
}

// TestP3_1CheckNumbers: each number alone decides, at and beside its edges.
func TestP3_1CheckNumbers(t *testing.T) {
	for _, n := range numerals() {
		for _, v := range append(edges(), n.least-1, n.least, n.least+1, n.unsaid, n.most-1, n.most, n.most+1) {
			want := api.OK
			if v < n.least || v > n.most {
				want = api.ErrArg
			}
			p := with(func(p *params.Params) { *n.at(p) = v })
			wantCheck(t, n.name, p, false, want)
			wantCheck(t, n.name, p, true, want)
		}
	}
}

// TestP3_1CheckZero: a number whose zero value may not be is not taken for one that is not said.
func TestP3_1CheckZero(t *testing.T) {
	for _, x := range []struct {
		name   string
		change func(p *params.Params)
		want   api.Errno
	}{
		{"Payload", func(p *params.Params) { p.Payload = 0 }, api.ErrArg},
		{"IDs", func(p *params.Params) { p.IDs = 0 }, api.ErrArg},
		{"Exponent", func(p *params.Params) { p.Exponent = 0 }, api.OK},
		{"Delay", func(p *params.Params) { p.Delay = 0 }, api.OK},
	} {
		wantCheck(t, x.name, with(x.change), false, x.want)
		wantCheck(t, x.name, with(x.change), true, x.want)
	}
}

// TestP3_1CheckIDs: identifiers of 0 to MaxID bytes, with or without spare room behind.
func TestP3_1CheckIDs(t *testing.T) {
	for _, size := range []int{0, 1, 8, api.MaxID - 1, api.MaxID, api.MaxID + 1, api.MaxID + 2, 64, 256, 5000} {
		id := run(size + 30)[:size]
		fits, bytesOfClients := api.OK, api.OK
		if size > api.MaxID {
			fits, bytesOfClients = api.ErrArg, api.ErrArg
		}
		if size > 0 {
			bytesOfClients = api.ErrArg
		}
		first := with(func(p *params.Params) { p.First = id })
		wantCheck(t, "First", first, false, fits)
		wantCheck(t, "First", first, true, fits)
		original := with(func(p *params.Params) { p.Original = id })
		wantCheck(t, "Original", original, false, bytesOfClients)
		wantCheck(t, "Original", original, true, fits)
		again := with(func(p *params.Params) { p.Again, p.HasAgain = id, true })
		wantCheck(t, "Again", again, false, api.ErrArg)
		wantCheck(t, "Again", again, true, fits)
		without := with(func(p *params.Params) { p.Again = id })
		wantCheck(t, "Again without HasAgain", without, false, bytesOfClients)
		wantCheck(t, "Again without HasAgain", without, true, bytesOfClients)
	}
}

func TestP3_1CheckReset(t *testing.T) {
	for i := range 16 {
		p := with(func(p *params.Params) { p.Reset[i] = 1 })
		wantCheck(t, "Reset without HasReset", p, true, api.ErrArg)
		wantCheck(t, "Reset without HasReset", p, false, api.ErrArg)
		p.HasReset = true
		wantCheck(t, "Reset", p, true, api.OK)
		wantCheck(t, "Reset", p, false, api.ErrArg)
	}
	p := with(func(p *params.Params) { p.HasReset = true })
	wantCheck(t, "Reset of 0", p, true, api.OK)
	wantCheck(t, "Reset of 0", p, false, api.ErrArg)
}

func TestP3_1CheckStill(t *testing.T) {
	p := with(func(p *params.Params) { p.Still = true })
	wantCheck(t, "Still", p, true, api.OK)
	wantCheck(t, "Still", p, false, api.OK)
}

// TestP3_1CheckWhole: with all fields at their greatest, one that is wrong is enough.
func TestP3_1CheckWhole(t *testing.T) {
	for _, server := range []bool{false, true} {
		wantCheck(t, "greatest", greatest(server), server, api.OK)
		for _, n := range numerals() {
			p := greatest(server)
			*n.at(&p) = n.most + 1
			wantCheck(t, n.name, p, server, api.ErrArg)
			*n.at(&p) = n.least - 1
			wantCheck(t, n.name, p, server, api.ErrArg)
		}
	}
	wantCheck(t, "a server's, of a client", greatest(true), false, api.ErrArg)
	wantCheck(t, "a client's, of a server", greatest(false), true, api.OK)
}

func greatest(server bool) params.Params {
	p := params.Params{Still: true, First: run(api.MaxID)}
	for _, n := range numerals() {
		*n.at(&p) = n.most
	}
	if server {
		p.Original, p.Again, p.HasAgain = bytes.Repeat([]byte{7}, api.MaxID), bytes.Repeat([]byte{9}, api.MaxID), true
		p.Reset, p.HasReset = token(), true
	}
	return p
}
