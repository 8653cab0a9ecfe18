package hello_test

import (
	"bytes"
	"encoding/hex"
	"fmt"
	"math"
	"reflect"
	"slices"
	"strings"
	"testing"

	"caravel/api"
	"caravel/hello"
	"caravel/vault"
)

// hx tells bytes that are written to the base 16; blanks part them.
func hx(t *testing.T, text string) []byte {
	t.Helper()
	b, err := hex.DecodeString(strings.ReplaceAll(text, " ", ""))
	if err != nil {
		t.Fatal(err)
	}
	return b
}

// run tells n bytes that are told apart by their places.
func run(n int) []byte {
	b := make([]byte, n)
	for i := range b {
		b[i] = byte(i*7 + i>>8 + 1)
	}
	return b
}

// join tells a new memory with all pieces, one behind the other.
func join(pieces ...[]byte) []byte { return bytes.Join(pieces, nil) }

// handle tells sixteen bytes from the first one on.
func handle(first byte) (h vault.Handle) {
	for i := range h {
		h[i] = first + byte(i)
	}
	return h
}

// The handles of the samples.
const (
	randomText = "a0a1a2a3a4a5a6a7a8a9aaabacadaeaf"
	shareText  = "b0b1b2b3b4b5b6b7b8b9babbbcbdbebf"
	binderText = "c0c1c2c3c4c5c6c7c8c9cacbcccdcecf"
	markText   = "d0d1d2d3d4d5d6d7d8d9dadbdcdddedf"
)

// kinds are those of the table.
func kinds() []int {
	return []int{hello.Client, hello.Server, hello.Extensions, hello.Identity, hello.Proof, hello.Finished, hello.Ticket}
}

func isKind(kind int) bool { return slices.Contains(kinds(), kind) }

// plain tells a message whose lists are nil where they are empty: these are as good.
func plain(m hello.Message) hello.Message {
	if len(m.Protos) == 0 {
		m.Protos = nil
	}
	if len(m.Params) == 0 {
		m.Params = nil
	}
	if len(m.Ticket) == 0 {
		m.Ticket = nil
	}
	return m
}

func same(m, n hello.Message) bool { return reflect.DeepEqual(plain(m), plain(n)) }

// brief tells a message for a failure's text, its long fields cut.
func brief(m hello.Message) string {
	name, protos := m.Name[:min(len(m.Name), 40)], slices.Clone(m.Protos[:min(len(m.Protos), 10)])
	for i, p := range protos {
		protos[i] = p[:min(len(p), 10)]
	}
	return fmt.Sprintf("{kind %d, random %x, share %x, name %q (%d), protos %q (%d), params %x (%d), ticket %x (%d), binder %x, early %v, again %v, mark %x, life %d}",
		m.Kind, m.Random, m.Share, name, len(m.Name), protos, len(m.Protos), cut(m.Params), len(m.Params), cut(m.Ticket), len(m.Ticket), m.Binder, m.Early, m.Again, m.Mark, m.Life)
}

func cut(b []byte) []byte { return b[:min(len(b), 120)] }

func wantPut(t *testing.T, name string, m hello.Message, want []byte) {
	t.Helper()
	if b, e := hello.Put(m); !bytes.Equal(b, want) || e != api.OK {
		t.Errorf("%s: Put(%s) = % x, %d; want % x", name, brief(m), cut(b), int(e), cut(want))
	}
}

func wantNoPut(t *testing.T, name string, m hello.Message, want api.Errno) {
	t.Helper()
	if b, e := hello.Put(m); len(b) != 0 || e != want {
		t.Errorf("%s: Put(%s) = % x, %d; want error %d", name, brief(m), cut(b), int(e), int(want))
	}
}

func wantRead(t *testing.T, name string, b []byte, at int, want hello.Message, next int) {
	t.Helper()
	if m, n, e := hello.Read(b, at); !same(m, want) || n != next || e != api.OK {
		t.Errorf("%s: Read(% x, %d) = %s, %d, %d; want %s, %d", name, cut(b), at, brief(m), n, int(e), brief(want), next)
	}
}

func wantNoRead(t *testing.T, name string, b []byte, at int, want api.Errno) {
	t.Helper()
	if m, n, e := hello.Read(b, at); !same(m, hello.Message{}) || n != 0 || e != want {
		t.Errorf("%s: Read(% x, %d) = %s, %d, %d; want error %d", name, cut(b), at, brief(m), n, int(e), int(want))
	}
}

// sample is a message, and its bytes.
type sample struct {
	name string
	m    hello.Message
	text string
}

// samples are ordinary messages of every kind of the table, with a ticket and without, with each flag and without.
func samples() []sample {
	h3, two := []string{"h3"}, []string{"x", "yz"}
	params, tick := []byte{1, 1, 0x1e}, []byte("tick")
	random, share, binder, mark := handle(0xa0), handle(0xb0), handle(0xc0), handle(0xd0)
	return []sample{
		{"client", hello.Message{Kind: hello.Client, Random: random, Share: share, Name: "srv", Protos: h3, Params: params},
			"01 00002e" + randomText + shareText + "03737276 01 026833 000301011e 00"},
		{"client with two protos alone", hello.Message{Kind: hello.Client, Random: random, Share: share, Protos: two},
			"01 00002a" + randomText + shareText + "00 02 0178 02797a 0000 00"},
		{"client with a ticket", hello.Message{Kind: hello.Client, Random: random, Share: share, Name: "srv", Protos: h3, Params: params, Ticket: tick, Binder: binder},
			"01 000044" + randomText + shareText + "03737276 01 026833 000301011e 01 00047469636b" + binderText},
		{"client with a ticket and early data", hello.Message{Kind: hello.Client, Random: random, Share: share, Name: "srv", Protos: two, Params: params, Ticket: tick, Binder: binder, Early: true},
			"01 000046" + randomText + shareText + "03737276 02 0178 02797a 000301011e 03 00047469636b" + binderText},
		{"client with a ticket and a binder of zeros", hello.Message{Kind: hello.Client, Protos: h3, Ticket: tick},
			"01 00003e" + strings.Repeat("00", 32) + "00 01 026833 0000 01 00047469636b" + strings.Repeat("00", 16)},
		{"server", hello.Message{Kind: hello.Server, Random: random, Share: share}, "02 000021" + randomText + shareText + "00"},
		{"server again", hello.Message{Kind: hello.Server, Random: random, Share: share, Again: true}, "02 000021" + randomText + shareText + "01"},
		{"extensions", hello.Message{Kind: hello.Extensions, Protos: h3, Params: params}, "08 000009 026833 000301011e 00"},
		{"extensions with early data", hello.Message{Kind: hello.Extensions, Protos: h3, Params: params, Early: true}, "08 000009 026833 000301011e 01"},
		{"extensions without params", hello.Message{Kind: hello.Extensions, Protos: h3}, "08 000006 026833 0000 00"},
		{"identity", hello.Message{Kind: hello.Identity, Name: "srv", Mark: mark}, "0b 000014 03737276" + markText},
		{"identity without a name", hello.Message{Kind: hello.Identity, Mark: mark}, "0b 000011 00" + markText},
		{"proof", hello.Message{Kind: hello.Proof, Mark: mark}, "0f 000010" + markText},
		{"finished", hello.Message{Kind: hello.Finished, Mark: mark}, "14 000010" + markText},
		{"finished of zeros", hello.Message{Kind: hello.Finished}, "14 000010" + strings.Repeat("00", 16)},
		{"ticket", hello.Message{Kind: hello.Ticket, Life: 0x01020304, Ticket: tick}, "04 00000b 01020304 00047469636b 00"},
		{"ticket with early data", hello.Message{Kind: hello.Ticket, Life: 0x01020304, Ticket: tick, Early: true}, "04 00000b 01020304 00047469636b 01"},
		{"ticket without life", hello.Message{Kind: hello.Ticket, Ticket: tick}, "04 00000b 00000000 00047469636b 00"},
	}
}

// edge is a field of a kind, how great it may be (a size, a count or a number), and what of that is tried.
type edge struct {
	name        string
	kind        int
	least, most int
	sizes       []int
	set         func(m *hello.Message, n int)
}

func text(n int) string { return string(run(n)) }

// texts tells n protocols' names.
func texts(n int) []string {
	out := make([]string, n)
	for i := range out {
		out[i] = text(1 + i%5)
	}
	return out
}

func ofName(m *hello.Message, n int)   { m.Name = text(n) }
func ofProtos(m *hello.Message, n int) { m.Protos = texts(n) }
func ofParams(m *hello.Message, n int) { m.Params = run(n) }
func ofTicket(m *hello.Message, n int) { m.Ticket = run(n) }
func ofLife(m *hello.Message, n int)   { m.Life = n }

// ofProto sets the protocol's name at a place among others.
func ofProto(place, count int) func(m *hello.Message, n int) {
	return func(m *hello.Message, n int) {
		m.Protos = texts(count)
		m.Protos[place] = text(n)
	}
}

func edges() []edge {
	short := []int{0, 1, 2, 127, 128, 254, 255, 256, 257, 511, 512, 65536, api.MaxBuffer}
	counts := []int{0, 1, 2, 7, 8, 9, 10, 255, 256, 257, 264, 65537}
	params := []int{0, 1, 255, 256, 257, 4095, 4096, 4097, 4098, 65535, 65536, 65537, 65536 + 4096, 1<<24 + 1}
	ticket := []int{0, 1, 2, 255, 256, 511, 512, 513, 514, 1024, 65535, 65536, 65537, 65536 + 512}
	lives := []int{math.MinInt, -1 << 32, -2, -1, 0, 1, 255, 256, 65536, 1<<31 - 1, 1 << 31, 1<<32 - 2, 1<<32 - 1, 1 << 32, 1<<32 + 1, 1 << 40, math.MaxInt}
	return []edge{
		{"Client's Name", hello.Client, 0, 255, short, ofName},
		{"Client's Protos", hello.Client, 1, 8, counts, ofProtos},
		{"Client's one Proto", hello.Client, 1, 255, short, ofProto(0, 1)},
		{"Client's first Proto", hello.Client, 1, 255, short, ofProto(0, 8)},
		{"Client's fourth Proto", hello.Client, 1, 255, short, ofProto(3, 8)},
		{"Client's last Proto", hello.Client, 1, 255, short, ofProto(7, 8)},
		{"Client's Params", hello.Client, 0, 4096, params, ofParams},
		{"Client's Ticket", hello.Client, 0, api.MaxToken, ticket, ofTicket},
		{"Extensions' Protos", hello.Extensions, 1, 1, counts, ofProtos},
		{"Extensions' Proto", hello.Extensions, 1, 255, short, ofProto(0, 1)},
		{"Extensions' Params", hello.Extensions, 0, 4096, params, ofParams},
		{"Identity's Name", hello.Identity, 0, 255, short, ofName},
		{"Ticket's Ticket", hello.Ticket, 1, api.MaxToken, ticket, ofTicket},
		{"Ticket's Life", hello.Ticket, 0, 1<<32 - 1, lives, ofLife},
	}
}

// bases are the messages whose fields are set to edges: of a client those too whose Ticket may be left out.
func bases(kind int) []hello.Message {
	var out []hello.Message
	for _, s := range samples() {
		if s.m.Kind == kind && !s.m.Early && s.m.Binder == (vault.Handle{}) {
			out = append(out, s.m)
		}
	}
	return out
}
