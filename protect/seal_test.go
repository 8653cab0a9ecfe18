package protect_test

import (
	"bytes"
	"encoding/hex"
	"fmt"
	"math"
	"slices"
	"strings"
	"testing"

	"caravel/api"
	"caravel/header"
	"caravel/protect"
	"caravel/vault"
)

// hx reads hex, with blanks.
func hx(t *testing.T, s string) []byte {
	t.Helper()
	b, err := hex.DecodeString(strings.ReplaceAll(s, " ", ""))
	if err != nil {
		t.Fatal(err)
	}
	return b
}

// The chapter's example.
func TestP10_2Example(t *testing.T) {
	v := vault.New()
	k := made(t)(protect.Make(v, v.Fresh()))
	p := protect.Packet{Header: header.Header{Kind: header.Short, Dst: []byte{7}}, Plain: []byte{1, 0, 0, 0}}
	if b, e := protect.Seal(v, k, p, -1); len(b) != 1+1+1+4+16 || e != api.OK {
		t.Errorf("%x, %d", b, int(e))
	}
	p.Plain = []byte{1}
	if b, e := protect.Seal(v, k, p, -1); len(b) != 0 || e != api.ErrArg {
		t.Errorf("%x, %d", b, int(e))
	}
}

// Packets written out: what stands there unmasked, the numbers of the terms that it is sealed by and masked with, and which bits these turn.
func TestP10_2WrittenOut(t *testing.T) {
	for _, c := range []struct {
		name          string
		p             protect.Packet
		acked         int
		front         string
		at            int
		turned        byte // of the first byte
		number, bytes string
	}{
		{"short", protect.Packet{Header: header.Header{Kind: header.Short, Dst: []byte{7}, Phase: true}, Number: 5, Plain: []byte("abcd")}, 4, "44 07 05", 2, 0x1f, "05", "00000000"},
		{"initial", protect.Packet{Header: header.Header{Kind: header.Initial, Dst: []byte{7}, Token: []byte("t")}, Number: 0x1234, Plain: []byte("ab")}, -1, "c1 00000001 0107 00 0174 4014 1234", 12, 0x0f, "1234", "0000"},
		{"early", protect.Packet{Header: header.Header{Kind: header.Early, Src: []byte{9}}, Number: 0x123456, Plain: []byte("a")}, -1, "d2 00000001 00 0109 4014 123456", 10, 0x0f, "123456", "00"},
		{"handshake", protect.Packet{Header: header.Header{Kind: header.Handshake}, Number: 0x12345678, Plain: nil}, -1, "e3 00000001 00 00 4014 12345678", 9, 0x0f, "12345678", ""},
	} {
		v := vault.New()
		k := made(t)(protect.Make(v, v.Fresh())) // the terms 1 to 3: then come the sealed text, 4, and the mask, 5
		b, e := protect.Seal(v, k, c.p, c.acked)
		sealed, m := name(4), name(5)
		want := hx(t, c.front)
		want[0] ^= m[0] & c.turned
		for i := range len(hx(t, c.number)) {
			want[c.at+i] ^= m[1+i]
		}
		want = slices.Concat(want, hx(t, c.bytes), sealed[:])
		if !bytes.Equal(b, want) || e != api.OK {
			t.Errorf("%s: %x, %d; not %x", c.name, b, int(e), want)
		}
		plain, e := v.Open(k.Key, c.p.Number, hx(t, c.front), slices.Concat(hx(t, c.bytes), sealed[:]))
		if string(plain) != string(c.p.Plain) || e != api.OK {
			t.Errorf("%s: %q is sealed, %d", c.name, plain, int(e))
		}
		if h, e := v.Derive(k.Mask, "mask", b[c.at+4:c.at+20]); h != m || e != api.OK {
			t.Errorf("%s: the mask is %x, %d", c.name, h, int(e))
		}
		count(t, v, 6)
	}
}

// Packets written out whole: the sealed text is the term 4, 3ee57890.., the mask 5, 657eecdd3c.., of whose first byte 05 is turned.
func TestP10_2Bytes(t *testing.T) {
	for _, c := range []struct {
		p     protect.Packet
		acked int
		want  string
	}{
		{protect.Packet{Header: header.Header{Kind: header.Short, Dst: []byte{7}}, Number: 5, Plain: []byte("abcd")}, 4, "45 07 7b 00000000"},
		{protect.Packet{Header: header.Header{Kind: header.Short, Phase: true}, Number: 5, Plain: []byte("abc")}, 4, "41 7b 000000"},
		{protect.Packet{Header: header.Header{Kind: header.Initial, Dst: []byte{7}, Src: []byte{8}, Token: []byte("to")}, Number: 5, Plain: []byte("abcd")}, -1, "c5 00000001 01 07 01 08 02 746f 4015 7b 00000000"},
		{protect.Packet{Header: header.Header{Kind: header.Early, Src: []byte{8}}, Number: 0x1234, Plain: []byte("ab")}, -1, "d4 00000001 00 01 08 4014 6cd8 0000"},
		{protect.Packet{Header: header.Header{Kind: header.Handshake, Dst: []byte{7}}, Number: 0x12345678}, -1, "e6 00000001 01 07 00 4014 6cd88b44"},
	} {
		v := vault.New()
		k := made(t)(protect.Make(v, v.Fresh()))
		b, e := protect.Seal(v, k, c.p, c.acked)
		if want := hx(t, c.want+"3ee5789041c98ac3f3b8488c368cb0a6"); !bytes.Equal(b, want) || e != api.OK {
			t.Errorf("%x, %d; not %x", b, int(e), want)
		}
	}
}

// Each kind, with numbers of one to four bytes and plain bytes of several lengths, against the chapter's words.
func TestP10_2All(t *testing.T) {
	x := newTwins(t)
	k := x.keys()
	for _, h := range headers() {
		for _, c := range numbers() {
			for _, size := range []int{4 - c.n, 5 - c.n, 4, 15, 16, 17, 100, 1200} {
				p := protect.Packet{Header: h, Number: c.number, Plain: run(size)}
				if b, e := x.seal(k, p, c.acked); e != api.OK || b[0]>>6 != 1 && b[0]>>6 != 3 {
					t.Fatalf("%s: %x, %d", text(p), b, int(e))
				}
			}
		}
	}
	x.alike()
}

// At and beside 4 - n plain bytes, and 16000.
func TestP10_2PlainEdges(t *testing.T) {
	x := newTwins(t)
	k := x.keys()
	for _, h := range headers() {
		for _, c := range numbers() {
			for size, want := range map[int]api.Errno{3 - c.n: api.ErrArg, 4 - c.n: api.OK, 0: api.ErrArg, 15999: api.OK, 16000: api.OK, 16001: api.ErrArg, 16384: api.ErrArg, 65537: api.ErrArg, 1 << 20: api.ErrArg} {
				if size == 0 && c.n == 4 {
					want = api.OK
				}
				if size < 0 || size > 1000 && c.acked != -1 {
					continue
				}
				p := protect.Packet{Header: h, Number: c.number, Plain: run(size)}
				if b, e := x.seal(k, p, c.acked); e != want || e != api.OK && len(b) != 0 {
					t.Fatalf("kind %d, %d plain bytes, a number of %d: %d bytes, %d", h.Kind, size, c.n, len(b), int(e))
				}
			}
		}
	}
	x.alike()
}

// Where a number needs a byte more.
func TestP10_2NumberSizes(t *testing.T) {
	v := vault.New()
	k := made(t)(protect.Make(v, v.Fresh()))
	for _, c := range numbers() {
		for _, h := range headers() {
			front, _, _ := header.Put(header.Header{Kind: h.Kind, Dst: h.Dst, Src: h.Src, Token: h.Token, Length: 1000}, 0, c.n)
			b, e := protect.Seal(v, k, protect.Packet{Header: h, Number: c.number, Plain: run(9)}, c.acked)
			if len(b) != len(front)+9+16 || e != api.OK {
				t.Errorf("kind %d, the number %d behind %d: %d bytes, %d", h.Kind, c.number, c.acked, len(b), int(e))
			}
		}
	}
}

// Fields that a kind does not have, a Length and Version of the header's own, and Size are not looked at.
func TestP10_2NotLookedAt(t *testing.T) {
	v := vault.New()
	k := made(t)(protect.Make(v, v.Fresh()))
	for _, h := range headers() {
		p := protect.Packet{Header: h, Number: 300, Plain: run(40)}
		want, _ := protect.Seal(v, k, p, -1)
		for _, n := range []int{math.MinInt, -1, 0, 1, 57, 59, 16383, 16384, math.MaxInt} {
			q := p
			q.Size, q.Header.Length, q.Header.Version = n, n, n
			q.Header.List, q.Header.Tag = []int{n}, [16]byte{9}
			if h.Kind == header.Short {
				q.Header.Src = run(api.MaxID + 1)
			} else {
				q.Header.Phase = true
			}
			if h.Kind != header.Initial {
				q.Header.Token = run(api.MaxToken + 1)
			}
			if b, e := protect.Seal(v, k, q, -1); !bytes.Equal(b, want) || e != api.OK {
				t.Errorf("kind %d with %d: %x, %d; not %x", h.Kind, n, b, int(e), want)
			}
		}
	}
}

// wrongPackets are those that Seal refuses.
func wrongPackets() map[string]struct {
	p     protect.Packet
	acked int
} {
	type wrong = struct {
		p     protect.Packet
		acked int
	}
	list := map[string]wrong{}
	for i, h := range headers() {
		good := protect.Packet{Header: h, Number: 9, Plain: run(9)}
		add := func(what string, acked int, change func(p *protect.Packet)) {
			p := good
			change(&p)
			list[fmt.Sprintf("header %d: %s", i, what)] = wrong{p, acked}
		}
		for _, kind := range []int{math.MinInt, -1, header.Retry, header.Versions, header.Other, 7, 16, math.MaxInt} {
			add(fmt.Sprint("kind ", kind), -1, func(p *protect.Packet) {
				p.Header.Kind, p.Header.Token, p.Header.List = kind, []byte("t"), []int{1}
			})
		}
		for _, number := range []int{math.MinInt, -2, -1, api.MaxVar + 1, math.MaxInt} {
			for _, acked := range []int{-1, number - 1} {
				add(fmt.Sprint("number ", number, " behind ", acked), acked, func(p *protect.Packet) { p.Number = number })
			}
		}
		for _, acked := range []int{math.MinInt, -2, 9, 10, math.MaxInt} {
			add(fmt.Sprint("acked ", acked), acked, func(*protect.Packet) {})
		}
		for _, size := range []int{0, 1, 2, 16001, 20000} {
			add(fmt.Sprint("plain bytes ", size), 8, func(p *protect.Packet) { p.Plain = run(size) })
		}
		for _, size := range []int{api.MaxID + 1, 255, 256, 276} {
			add(fmt.Sprint("Dst ", size), -1, func(p *protect.Packet) { p.Header.Dst = run(size) })
			if h.Kind != header.Short {
				add(fmt.Sprint("Src ", size), -1, func(p *protect.Packet) { p.Header.Src = run(size) })
			}
		}
		if h.Kind == header.Initial {
			add("token", -1, func(p *protect.Packet) { p.Header.Token = run(api.MaxToken + 1) })
		}
	}
	return list
}

func TestP10_2Wrong(t *testing.T) {
	v := vault.New()
	k := made(t)(protect.Make(v, v.Fresh()))
	for what, c := range wrongPackets() {
		if b, e := protect.Seal(v, k, c.p, c.acked); len(b) != 0 || e != api.ErrArg {
			t.Errorf("%s: %x, %d", what, b, int(e))
		}
	}
	count(t, v, 4)
}

// Which error comes first: keys that nobody made, what may not be sealed, the key, the mask.
func TestP10_2Order(t *testing.T) {
	v := vault.New()
	k := made(t)(protect.Make(v, v.Fresh()))
	wrong := wrongPackets()
	for _, h := range headers() {
		good := protect.Packet{Header: h, Number: 9, Plain: run(9)}
		for _, s := range strangers(4) {
			for what, c := range wrong {
				for _, bad := range []protect.Keys{{Key: s, Mask: k.Mask}, {Key: k.Key, Mask: s}, {Secret: k.Secret, Key: s, Mask: s}} {
					if b, e := protect.Seal(v, bad, c.p, c.acked); len(b) != 0 || e != api.ErrArg {
						t.Fatalf("%s: %x, %d", what, b, int(e))
					}
				}
			}
			if b, e := protect.Seal(v, protect.Keys{Secret: k.Secret, Key: s, Mask: k.Mask}, good, 8); len(b) != 0 || e != api.ErrNone {
				t.Errorf("the key %x: %x, %d", s, b, int(e))
			}
		}
		wrong = nil // once is enough
	}
	for what, c := range wrongPackets() {
		if b, e := protect.Seal(v, protect.Keys{}, c.p, c.acked); len(b) != 0 || e != api.ErrNil {
			t.Errorf("%s, keys that nobody made: %x, %d", what, b, int(e))
		}
	}
	count(t, v, 4)
}

// A mask that is nobody's is found behind sealing: the sealed text is a term then.
func TestP10_2NobodysMask(t *testing.T) {
	for _, h := range headers() {
		v := vault.New()
		k := made(t)(protect.Make(v, v.Fresh()))
		p := protect.Packet{Header: h, Number: 9, Plain: run(9)}
		for _, s := range strangers(5) {
			if b, e := protect.Seal(v, protect.Keys{Secret: k.Secret, Key: k.Key, Mask: s}, p, 8); len(b) != 0 || e != api.ErrNone {
				t.Errorf("kind %d, the mask %x: %x, %d", h.Kind, s, b, int(e))
			}
		}
		count(t, v, 5)
	}
}

// The secret is not looked at; keys of which not all are zero are not those that nobody made.
func TestP10_2SecretNotLookedAt(t *testing.T) {
	v := vault.New()
	k := made(t)(protect.Make(v, v.Fresh()))
	p := protect.Packet{Header: header.Header{Kind: header.Short}, Number: 9, Plain: run(9)}
	want, _ := protect.Seal(v, k, p, 8)
	for _, s := range strangers(6) {
		bare := protect.Keys{Secret: s, Key: k.Key, Mask: k.Mask}
		if b, e := protect.Seal(v, bare, p, 8); !bytes.Equal(b, want) || e != api.OK {
			t.Errorf("%x, %d", b, int(e))
		}
		if q, err := protect.Open(v, bare, want, 0, 8); string(q.Plain) != string(p.Plain) || err != nil {
			t.Errorf("%s, %v", text(q), err)
		}
	}
	if b, e := protect.Seal(v, protect.Keys{Secret: k.Secret}, p, 8); len(b) != 0 || e != api.ErrNone {
		t.Errorf("%x, %d", b, int(e))
	}
	shut(t, "the secret alone", v, protect.Keys{Secret: k.Secret}, want, 0, 8, api.ErrNone)
}

// The same packet sealed again is the same, and makes no term.
func TestP10_2Again(t *testing.T) {
	v := vault.New()
	k := made(t)(protect.Make(v, v.Fresh()))
	p := protect.Packet{Header: header.Header{Kind: header.Short}, Number: 9, Plain: run(9)}
	one, _ := protect.Seal(v, k, p, 8)
	two, _ := protect.Seal(v, k, p, 7)
	if !bytes.Equal(one, two) || len(one) != 1+1+9+16 {
		t.Errorf("%x is not %x", one, two)
	}
	count(t, v, 6)
}
