package header_test

import (
	"bytes"
	"encoding/hex"
	"math"
	"slices"
	"strings"
	"testing"

	"caravel/api"
	"caravel/header"
)

// hx tells bytes that are written to the base 16; blanks part them.
func hx(t *testing.T, text string) []byte {
	t.Helper()
	b, err := hex.DecodeString(strings.ReplaceAll(text, " ", ""))
	if err != nil {
		t.Fatal(err)
	}
	return b
}

// run tells n bytes that are told apart by their places.
func run(n int) []byte {
	b := make([]byte, n)
	for i := range b {
		b[i] = byte(i + 1)
	}
	return b
}

// join tells a new memory with all pieces, one behind the other.
func join(pieces ...[]byte) []byte { return bytes.Join(pieces, nil) }

// roomy tells the bytes with spare room behind them, filled so that a write into it is seen.
func roomy(b []byte) []byte {
	whole := append(slices.Clone(b), "................"...)
	return whole[:len(b)]
}

// same holds headers against each other; no bytes are as good as nil.
func same(g, h header.Header) bool {
	return g.Kind == h.Kind && g.Version == h.Version && bytes.Equal(g.Dst, h.Dst) && bytes.Equal(g.Src, h.Src) &&
		bytes.Equal(g.Token, h.Token) && g.Length == h.Length && g.Phase == h.Phase && slices.Equal(g.List, h.List) && g.Tag == h.Tag
}

func isZero(h header.Header) bool {
	return same(h, header.Header{}) && h.Dst == nil && h.Src == nil && h.Token == nil && h.List == nil
}

func tag() [16]byte { return [16]byte(run(16)) }

const tagText = "0102030405060708090a0b0c0d0e0f10"

// packet is a header, its number, and its bytes.
type packet struct {
	name string
	h    header.Header
	low  uint64
	n    int
	text string
	at   int
}

// packets are ordinary ones of each kind that can be put.
func packets() []packet {
	dst, src := []byte{0xd1, 0xd2}, []byte{0x51, 0x52, 0x53}
	return []packet{
		{"short with phase", header.Header{Kind: header.Short, Dst: []byte{7}, Phase: true}, 5, 1, "44 07 05", 2},
		{"short", header.Header{Kind: header.Short, Dst: dst}, 0x0102030405, 4, "43 d1d2 02030405", 3},
		{"short of no identifier", header.Header{Kind: header.Short}, 0xffff, 2, "41 ffff", 1},
		{"initial of the chapter", header.Header{Kind: header.Initial, Dst: []byte{7}, Length: 20}, 1, 2, "c1 00000001 01 07 00 00 4014 0001", 11},
		{"initial", header.Header{Kind: header.Initial, Dst: dst, Src: src, Token: []byte("tok"), Length: 300}, 0xabcdef, 3, "c2 00000001 02 d1d2 03 515253 03 746f6b 412c abcdef", 18},
		{"early", header.Header{Kind: header.Early, Dst: dst, Src: src, Length: 1}, 9, 1, "d0 00000001 02 d1d2 03 515253 4001 09", 14},
		{"handshake", header.Header{Kind: header.Handshake, Dst: dst, Src: src, Length: 16383}, math.MaxUint64, 4, "e3 00000001 02 d1d2 03 515253 7fff ffffffff", 14},
		{"retry", header.Header{Kind: header.Retry, Dst: dst, Src: src, Token: []byte("t"), Tag: tag()}, 77, 1, "f0 00000001 02 d1d2 03 515253 74" + tagText, 29},
		{"one version", header.Header{Kind: header.Versions, Dst: dst, Src: src, List: []int{1}}, 77, 4, "c0 00000000 02 d1d2 03 515253 00000001", 16},
		{"versions", header.Header{Kind: header.Versions, Src: src, List: []int{0x6b3343cf, 1, 1<<32 - 1, 1}}, 0, 0, "c0 00000000 00 03 515253 6b3343cf 00000001 ffffffff 00000001", 26},
	}
}

func TestP2_1Put(t *testing.T) {
	for _, x := range packets() {
		b, at, e := header.Put(x.h, x.low, x.n)
		if want := hx(t, x.text); !bytes.Equal(b, want) || at != x.at || e != api.OK {
			t.Errorf("%s: % x at %d, %d; want % x at %d", x.name, b, at, int(e), want, x.at)
		}
	}
}

// TestP2_1PutIdentifiers: from none to MaxID bytes, each told by its length.
func TestP2_1PutIdentifiers(t *testing.T) {
	for n := range api.MaxID + 1 {
		for m := range api.MaxID + 1 {
			dst, src := run(n), run(m)
			b, at, e := header.Put(header.Header{Kind: header.Early, Dst: dst, Src: src, Length: 2}, 3, 1)
			want := join(hx(t, "d0 00000001"), []byte{byte(n)}, dst, []byte{byte(m)}, src, hx(t, "4002 03"))
			if !bytes.Equal(b, want) || at != len(want)-1 || e != api.OK {
				t.Errorf("%d, %d: % x at %d, %d", n, m, b, at, int(e))
			}
		}
		b, at, e := header.Put(header.Header{Kind: header.Short, Dst: run(n)}, 3, 1)
		if want := join([]byte{0x40}, run(n), []byte{3}); !bytes.Equal(b, want) || at != n+1 || e != api.OK {
			t.Errorf("short %d: % x at %d, %d", n, b, at, int(e))
		}
	}
}

// TestP2_1PutTokens: a token's length is in as few bytes as it needs.
func TestP2_1PutTokens(t *testing.T) {
	for _, x := range []struct {
		n    int
		size string
	}{{0, "00"}, {1, "01"}, {63, "3f"}, {64, "4040"}, {511, "41ff"}, {api.MaxToken, "4200"}} {
		b, at, e := header.Put(header.Header{Kind: header.Initial, Token: run(x.n), Length: 2}, 3, 1)
		want := join(hx(t, "c0 00000001 0000"+x.size), run(x.n), hx(t, "4002 03"))
		if !bytes.Equal(b, want) || at != len(want)-1 || e != api.OK {
			t.Errorf("initial %d: % x at %d, %d", x.n, b, at, int(e))
		}
		if x.n == 0 {
			continue
		}
		b, at, e = header.Put(header.Header{Kind: header.Retry, Token: run(x.n), Tag: tag()}, 0, 0)
		want = join(hx(t, "f0 00000001 0000"), run(x.n), hx(t, tagText))
		if !bytes.Equal(b, want) || at != len(want) || e != api.OK {
			t.Errorf("retry %d: % x at %d, %d", x.n, b, at, int(e))
		}
	}
}

// TestP2_1PutNumber: the n lowest bytes, and their count in the first byte, whatever stands above them.
func TestP2_1PutNumber(t *testing.T) {
	const low = 0x8877665544332211
	ends := []string{"11", "2211", "332211", "44332211"}
	for i, end := range ends {
		for _, x := range []struct {
			kind  int
			first byte
			ahead string
		}{
			{header.Initial, 0xc0, "00000001 0000 00 4004"},
			{header.Early, 0xd0, "00000001 0000 4004"},
			{header.Handshake, 0xe0, "00000001 0000 4004"},
			{header.Short, 0x40, ""},
		} {
			b, at, e := header.Put(header.Header{Kind: x.kind, Length: 4}, low, i+1)
			want := join([]byte{x.first | byte(i)}, hx(t, x.ahead), hx(t, end))
			if !bytes.Equal(b, want) || at != len(want)-i-1 || e != api.OK {
				t.Errorf("kind %d, n %d: % x at %d, %d; want % x", x.kind, i+1, b, at, int(e), want)
			}
		}
	}
}

// TestP2_1PutLength: from n to 16383, always in two bytes.
func TestP2_1PutLength(t *testing.T) {
	for _, kind := range []int{header.Initial, header.Early, header.Handshake} {
		for n := 1; n <= 4; n++ {
			for _, length := range []int{n, n + 1, 63, 64, 16382, 16383} {
				b, at, e := header.Put(header.Header{Kind: kind, Length: length}, 0, n)
				if e != api.OK || len(b) != at+n || b[at-2] != 0x40|byte(length>>8) || b[at-1] != byte(length) {
					t.Errorf("kind %d, n %d, Length %d: % x at %d, %d", kind, n, length, b, at, int(e))
				}
			}
			for _, length := range []int{math.MinInt, -1, 0, n - 1, 16384, 16385, 1 << 20, math.MaxInt} {
				wantNoPut(t, header.Header{Kind: kind, Length: length}, n)
			}
		}
	}
}

func wantNoPut(t *testing.T, h header.Header, n int) {
	t.Helper()
	if b, at, e := header.Put(h, 5, n); len(b) != 0 || at != 0 || e != api.ErrArg {
		t.Errorf("Put(%+v, 5, %d) = % x at %d, %d; want ErrArg", h, n, b, at, int(e))
	}
}

// wrong changes a header that can be put.
func wrong(h header.Header, change func(h *header.Header)) header.Header {
	change(&h)
	return h
}

func TestP2_1PutWrong(t *testing.T) {
	for _, x := range packets() {
		for _, kind := range []int{math.MinInt, -1, header.Other, 7, 16, math.MaxInt} {
			wantNoPut(t, wrong(x.h, func(h *header.Header) { h.Kind = kind }), x.n)
		}
		for _, n := range []int{api.MaxID + 1, 255, 256, 300} {
			wantNoPut(t, wrong(x.h, func(h *header.Header) { h.Dst = run(n) }), x.n)
			if x.h.Kind != header.Short {
				wantNoPut(t, wrong(x.h, func(h *header.Header) { h.Src = run(n) }), x.n)
			}
		}
		if x.h.Kind <= header.Handshake || x.h.Kind == header.Short {
			for _, n := range []int{math.MinInt, -1, 0, 5, 6, 256, math.MaxInt} {
				wantNoPut(t, wrong(x.h, func(h *header.Header) { h.Length = 16383 }), n)
				wantNoPut(t, wrong(x.h, func(h *header.Header) { h.Length = n }), n)
			}
		}
		if x.h.Kind == header.Initial || x.h.Kind == header.Retry {
			for _, n := range []int{api.MaxToken + 1, 1 << 14} {
				wantNoPut(t, wrong(x.h, func(h *header.Header) { h.Token = run(n) }), x.n)
			}
		}
	}
	wantNoPut(t, header.Header{Kind: header.Retry, Token: []byte{}}, 1)
	wantNoPut(t, header.Header{Kind: header.Retry}, 1)
	wantNoPut(t, header.Header{Kind: header.Versions}, 1)
	for _, v := range []int{math.MinInt, -1, 0, 1 << 32, 1<<32 + 1, math.MaxInt} {
		wantNoPut(t, header.Header{Kind: header.Versions, List: []int{v}}, 1)
		wantNoPut(t, header.Header{Kind: header.Versions, List: []int{1, 1<<32 - 1, v}}, 1)
		wantNoPut(t, header.Header{Kind: header.Versions, List: []int{v, 1}}, 1)
	}
}

// TestP2_1PutOtherFields: what a kind does not have is not looked at, and not told.
func TestP2_1PutOtherFields(t *testing.T) {
	for _, x := range packets() {
		h := x.h
		h.Version = 99
		if h.Kind == header.Short {
			h.Src = run(api.MaxID + 1)
		} else {
			h.Phase = true
		}
		if h.Kind != header.Initial && h.Kind != header.Retry {
			h.Token = run(api.MaxToken + 1)
		}
		if h.Kind > header.Handshake || h.Kind == header.Retry {
			h.Length = -1
		}
		if h.Kind != header.Versions {
			h.List = []int{-1}
		}
		if h.Kind != header.Retry {
			h.Tag = [16]byte{9}
		}
		counts := []int{x.n}
		if h.Kind == header.Retry || h.Kind == header.Versions {
			counts = []int{math.MinInt, -1, 0, 1, 4, 5, math.MaxInt}
		}
		for _, n := range counts {
			b, at, e := header.Put(h, x.low, n)
			if want := hx(t, x.text); !bytes.Equal(b, want) || at != x.at || e != api.OK {
				t.Errorf("%s, n %d: % x at %d, %d; want % x at %d", x.name, n, b, at, int(e), want, x.at)
			}
		}
	}
}
