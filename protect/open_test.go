package protect_test

import (
	"bytes"
	"fmt"
	"math"
	"slices"
	"testing"

	"caravel/api"
	"caravel/header"
	"caravel/protect"
	"caravel/vault"
)

// start is a vault with keys: the terms 1 to 3.
func start(t *testing.T) (*vault.Vault, protect.Keys) {
	t.Helper()
	v := vault.New()
	return v, made(t)(protect.Make(v, v.Fresh()))
}

// sealed is a packet's bytes, which must be there.
func sealed(t *testing.T, v *vault.Vault, k protect.Keys, p protect.Packet, acked int) []byte {
	t.Helper()
	b, e := protect.Seal(v, k, p, acked)
	if e != api.OK {
		t.Fatalf("Seal(%s, %d): %d", text(p), acked, int(e))
	}
	return b
}

// opened is what Open is to tell of a packet that was sealed with a number of n bytes.
func opened(p protect.Packet, n, size int) protect.Packet {
	if p.Header.Kind != header.Short {
		p.Header.Version = api.Version
		p.Header.Length = n + len(p.Plain) + 16
	}
	p.Size = size
	return p
}

// wantOpen asks that bytes are opened so.
func wantOpen(t *testing.T, v *vault.Vault, k protect.Keys, b []byte, ids, greatest int, want protect.Packet) {
	t.Helper()
	if got, err := protect.Open(v, k, b, ids, greatest); text(got) != text(want) || err != nil {
		t.Fatalf("Open(%.60x, %d, %d) = %.300s, %v; not %.300s", b, ids, greatest, text(got), err, text(want))
	}
}

// Packets of each kind, all fields of them.
func TestP10_3Open(t *testing.T) {
	v, k := start(t)
	for _, h := range headers() {
		for _, c := range numbers() {
			for _, size := range []int{max(1, 4-c.n), 4, 17, 1200} {
				p := protect.Packet{Header: h, Number: c.number, Plain: run(size)}
				b := sealed(t, v, k, p, c.acked)
				wantOpen(t, v, k, b, len(h.Dst), c.acked, opened(p, c.n, len(b)))
			}
		}
	}
}

// The packet whose bytes are written out, opened, by its bytes alone.
func TestP10_3Bytes(t *testing.T) {
	v, k := start(t)
	v.Seal(k.Key, 5, hx(t, "44 07 05"), []byte("abcd")) // the term 4; the mask of it is the term 5, 657e..
	b := hx(t, "41 07 7b 00000000 3ee5789041c98ac3f3b8488c368cb0a6")
	h := header.Header{Kind: header.Short, Dst: []byte{7}, Phase: true}
	wantOpen(t, v, k, b, 1, 4, protect.Packet{Header: h, Number: 5, Plain: []byte("abcd"), Size: 23})
	count(t, v, 6)
}

// Others behind a packet with a Length are not its own; a short one's are.
func TestP10_3Behind(t *testing.T) {
	v, k := start(t)
	for _, h := range headers() {
		p := protect.Packet{Header: h, Number: 300, Plain: run(40)}
		b := sealed(t, v, k, p, -1)
		for _, behind := range [][]byte{{0}, run(5), b, make([]byte, 1300)} {
			both := slices.Concat(b, behind)
			if h.Kind == header.Short {
				shut(t, "short", v, k, both, len(h.Dst), -1, api.ErrSeal)
			} else {
				wantOpen(t, v, k, both, 0, -1, opened(p, 2, len(b)))
			}
		}
	}
}

// A datagram of all kinds, packet by packet: Size tells where the next one begins.
func TestP10_3Datagram(t *testing.T) {
	v, k := start(t)
	var datagram []byte
	var packets []protect.Packet
	for i, h := range headers()[:8] {
		p := protect.Packet{Header: h, Number: i, Plain: run(9 + i)}
		datagram = append(datagram, sealed(t, v, k, p, i-1)...)
		packets = append(packets, p)
	}
	for i, p := range packets {
		got, err := protect.Open(v, k, datagram, 8, i-1)
		if text(got) != text(opened(p, 1, got.Size)) || err != nil {
			t.Fatalf("packet %d: %s, %v", i, text(got), err)
		}
		datagram = datagram[got.Size:]
	}
	if len(datagram) != 0 {
		t.Errorf("%d bytes are left", len(datagram))
	}
}

// Where greatest may be.
func TestP10_3Greatest(t *testing.T) {
	v, k := start(t)
	h := header.Header{Kind: header.Short}
	first := protect.Packet{Header: h, Number: 0, Plain: run(9)}
	last := protect.Packet{Header: h, Number: api.MaxVar, Plain: run(9)}
	b, c := sealed(t, v, k, first, -1), sealed(t, v, k, last, api.MaxVar-1)
	wantOpen(t, v, k, b, 0, -1, opened(first, 1, len(b)))
	wantOpen(t, v, k, b, 0, 0, opened(first, 1, len(b)))
	wantOpen(t, v, k, c, 0, api.MaxVar, opened(last, 1, len(c)))
	wantOpen(t, v, k, c, 0, api.MaxVar-1, opened(last, 1, len(c)))
	for _, greatest := range []int{math.MinInt, -3, -2, api.MaxVar + 1, math.MaxInt} {
		for _, x := range [][]byte{b, c, nil, {0}, make([]byte, 99)} {
			shut(t, fmt.Sprint("greatest ", greatest), v, k, x, 0, greatest, api.ErrArg)
		}
		shut(t, "greatest, and no keys", v, protect.Keys{}, b, 0, greatest, api.ErrNil)
		shut(t, "greatest, and no header", v, k, []byte{0}, 0, greatest, api.ErrArg)
	}
	shut(t, "far from it", v, k, b, 0, api.MaxVar, api.ErrSeal)
	shut(t, "far from it", v, k, c, 0, -1, api.ErrSeal)
}

// noHeaders are bytes that header.Read refuses, and why; short ones have identifiers of 1 byte.
func noHeaders(t *testing.T) map[string]api.Errno {
	list := map[string]api.Errno{}
	long := string(make([]byte, 40))
	for text, e := range map[string]api.Errno{
		"": api.ErrEnd, "40": api.ErrEnd, "c0": api.ErrEnd, "c0 00000001": api.ErrEnd,
		"c0 00000001 00 00 4001": api.ErrEnd,
	} {
		list[string(hx(t, text))] = e
	}
	for text, e := range map[string]api.Errno{
		"00":                     api.ErrForm, // the second bit
		"3f":                     api.ErrForm,
		"80 00000001 00 00":      api.ErrForm,
		"c0 00000001 15":         api.ErrForm, // an identifier of 21 bytes
		"d0 00000001 00 00 4100": api.ErrEnd,  // Length
		"e0 00000001 00 00 ff":   api.ErrEnd,
	} {
		list[string(hx(t, text))+long] = e
	}
	list[string(hx(t, "c0 00000001 00 00 4201"))+string(run(600))] = api.ErrForm // a token
	list[string(hx(t, "80 00000000 00 00 010203"))] = api.ErrForm                // versions
	return list
}

// otherKinds are packets that have no number.
func otherKinds(t *testing.T) map[string][]byte {
	list := map[string][]byte{"other": slices.Concat(hx(t, "c0 00000007 00 00"), run(99)), "other alone": hx(t, "c0 00000002 01 07 00")}
	for what, h := range map[string]header.Header{
		"retry":        {Kind: header.Retry, Dst: run(8), Token: run(50), Tag: [16]byte{1}},
		"short retry":  {Kind: header.Retry, Token: run(1)},
		"versions":     {Kind: header.Versions, List: []int{1, 2, 3, 4, 5, 6, 7, 8, 9}},
		"one version":  {Kind: header.Versions, List: []int{1}},
		"versions ids": {Kind: header.Versions, Dst: run(20), Src: run(20), List: []int{1, 2}},
	} {
		b, _, e := header.Put(h, 0, 0)
		if e != api.OK {
			t.Fatal(what, int(e))
		}
		list[what] = b
	}
	return list
}

// Errors of headers, and kinds that may not be opened: whatever the keys are, and no term is made.
func TestP10_3Headers(t *testing.T) {
	v, k := start(t)
	keys := []protect.Keys{k, {Secret: k.Secret}, {Key: name(99), Mask: name(99)}}
	for _, k := range keys {
		for b, e := range noHeaders(t) {
			shut(t, fmt.Sprintf("%x", b), v, k, []byte(b), 1, -1, e)
		}
		for what, b := range otherKinds(t) {
			shut(t, what, v, k, b, 1, -1, api.ErrArg)
		}
		for _, ids := range []int{math.MinInt, -1, api.MaxID + 1, math.MaxInt} {
			for _, b := range [][]byte{nil, {0}, make([]byte, 99), bytes.Repeat([]byte{0x40}, 99)} {
				shut(t, fmt.Sprint("ids ", ids), v, k, b, ids, -1, api.ErrArg)
			}
		}
	}
	count(t, v, 4)
}

// behindNumber is a packet that nobody sealed, with so many bytes from the number's first place on.
func behindNumber(t *testing.T, h header.Header, size int) []byte {
	h.Length = size
	b, at, e := header.Put(h, 0, 1)
	if e != api.OK {
		t.Fatal(int(e))
	}
	return slices.Concat(b[:at], run(size))
}

// At and beside twenty bytes behind the number's first place; others behind the packet do not help.
func TestP10_3Twenty(t *testing.T) {
	for _, h := range headers() {
		for size := 1; size < 24; size++ {
			v, k := start(t)
			b := behindNumber(t, h, size)
			all := [][]byte{b}
			if h.Kind != header.Short {
				all = append(all, slices.Concat(b, run(99)))
			}
			want, terms := api.ErrEnd, 4
			if size >= 20 {
				want, terms = api.ErrSeal, 5
			}
			for _, b := range all {
				shut(t, fmt.Sprint(size), v, k, b, len(h.Dst), -1, want)
			}
			count(t, v, terms)
		}
	}
	v, k := start(t)
	shut(t, "an identifier and nothing", v, k, append([]byte{0x40}, run(8)...), 8, -1, api.ErrEnd)
	shut(t, "a Length of 0", v, k, slices.Concat(hx(t, "d0 00000001 00 00 00"), run(99)), 0, -1, api.ErrEnd)
	count(t, v, 4)
}

// A mask that is nobody's is found ahead of the key, and behind too few bytes.
func TestP10_3Nobodys(t *testing.T) {
	for _, h := range headers() {
		v, k := start(t)
		p := protect.Packet{Header: h, Number: 300, Plain: run(40)}
		b := sealed(t, v, k, p, -1)
		few := behindNumber(t, h, 19)
		for _, s := range strangers(6) {
			noMask, noKey := protect.Keys{Secret: k.Secret, Key: k.Key, Mask: s}, protect.Keys{Secret: k.Secret, Key: s, Mask: k.Mask}
			shut(t, "mask", v, noMask, b, len(h.Dst), -1, api.ErrNone)
			shut(t, "key", v, noKey, b, len(h.Dst), -1, api.ErrNone)
			shut(t, "both", v, protect.Keys{Key: s, Mask: s, Secret: k.Secret}, b, len(h.Dst), -1, api.ErrNone)
			shut(t, "few bytes", v, noMask, few, len(h.Dst), -1, api.ErrEnd)
			shut(t, "few bytes", v, noKey, few, len(h.Dst), -1, api.ErrEnd)
		}
		count(t, v, 6)
	}
}

// The mask is a term then, though the key is nobody's, or does not open it; without a mask there is none.
func TestP10_3Terms(t *testing.T) {
	for _, h := range headers() {
		b := behindNumber(t, h, 40)
		v, k := start(t)
		shut(t, "mask", v, protect.Keys{Key: k.Key, Mask: name(77)}, b, len(h.Dst), -1, api.ErrNone)
		count(t, v, 4)
		shut(t, "key", v, protect.Keys{Key: name(77), Mask: k.Mask}, b, len(h.Dst), -1, api.ErrNone)
		count(t, v, 6)
		shut(t, "seal", v, k, b, len(h.Dst), -1, api.ErrSeal)
		count(t, v, 7)
		b[len(b)-1]++ // behind the sample
		shut(t, "again", v, k, b, len(h.Dst), -1, api.ErrSeal)
		count(t, v, 8)
	}
}

// withBits seals a packet whose first byte has bits that Seal does not set.
func withBits(t *testing.T, v *vault.Vault, k protect.Keys, h header.Header, bits byte, number, n int, plain []byte) []byte {
	t.Helper()
	h.Length = n + len(plain) + 16
	front, at, e := header.Put(h, uint64(number), n)
	if e != api.OK {
		t.Fatal(int(e))
	}
	front[0] |= bits
	b, e := wrap(v, k, front, at, number, plain)
	if e != api.OK {
		t.Fatal(int(e))
	}
	return b
}

// Bits that must be 0 and are not; the others are not those.
func TestP10_3Bits(t *testing.T) {
	v, k := start(t)
	for i, h := range headers() {
		zero := byte(0x0c)
		if h.Kind == header.Short {
			zero = 0x18
		}
		for n := 1; n <= 4; n++ {
			for _, bits := range []byte{0, 0x04, 0x08, 0x0c, 0x10, 0x18, 0x1c} {
				if h.Kind != header.Short && bits&0x10 != 0 {
					continue // a bit of the kind
				}
				b := withBits(t, v, k, h, bits, 9, n, run(30))
				got, err := protect.Open(v, k, b, len(h.Dst), 8)
				if bits&zero != 0 {
					refused(t, fmt.Sprintf("header %d, bits %x", i, bits), got, err, api.ErrForm, true)
					continue
				}
				want := protect.Packet{Header: h, Number: 9, Plain: run(30)}
				want.Header.Phase = h.Phase || bits == 4
				if text(got) != text(opened(want, n, len(b))) || err != nil {
					t.Errorf("header %d, bits %x: %s, %v", i, bits, text(got), err)
				}
			}
		}
	}
}

// A packet of no plain bytes, as Seal tells it, closes, with and without wrong bits.
func TestP10_3NoPlain(t *testing.T) {
	v, k := start(t)
	for i, h := range headers() {
		what := fmt.Sprint("header ", i)
		b := sealed(t, v, k, protect.Packet{Header: h, Number: 1 << 30}, -1)
		p, err := protect.Open(v, k, b, len(h.Dst), -1)
		refused(t, what, p, err, api.ErrForm, true)
		b = withBits(t, v, k, h, 8, 5, 4, nil)
		p, err = protect.Open(v, k, b, len(h.Dst), 4)
		refused(t, what, p, err, api.ErrForm, true)
		b = sealed(t, v, k, protect.Packet{Header: h, Number: 1 << 30, Plain: []byte{1}}, -1)
		wantOpen(t, v, k, b, len(h.Dst), -1, opened(protect.Packet{Header: h, Number: 1 << 30, Plain: []byte{1}}, 4, len(b)))
	}
}

// What the key does not open is not held against its form: anybody could have made it.
func TestP10_3BitsUnsealed(t *testing.T) {
	v, k := start(t)
	other := made(t)(protect.Make(v, v.Fresh()))
	other.Mask = k.Mask
	for _, h := range headers() {
		for _, plain := range [][]byte{nil, run(30)} {
			b := withBits(t, v, k, h, 0x08, 9, 4, plain)
			shut(t, "another key", v, other, b, len(h.Dst), 8, api.ErrSeal)
			shut(t, "no key", v, protect.Keys{Mask: k.Mask}, b, len(h.Dst), 8, api.ErrNone)
			b[len(b)-1] ^= 1
			shut(t, "spoilt", v, k, b, len(h.Dst), 8, api.ErrSeal)
		}
	}
}

// A Length in another number of bytes than Put lays is read as well.
func TestP10_3WideLength(t *testing.T) {
	v, k := start(t)
	for _, length := range []string{"1d", "401d", "8000001d", "c00000000000001d"} {
		front := slices.Concat(hx(t, "e0 00000001 00 00"), hx(t, length), []byte{9})
		b, _ := wrap(v, k, front, len(front)-1, 9, run(12))
		h := header.Header{Kind: header.Handshake}
		wantOpen(t, v, k, append(bytes.Clone(b), 1, 2, 3), 0, 8, opened(protect.Packet{Header: h, Number: 9, Plain: run(12)}, 1, len(b)))
	}
}

// More plain bytes than Seal takes are opened.
func TestP10_3Large(t *testing.T) {
	v, k := start(t)
	h := header.Header{Kind: header.Short, Dst: []byte{7}}
	for _, size := range []int{16000, 16001, 1 << 16} {
		b, _ := wrap(v, k, []byte{0x40, 7, 9}, 2, 9, run(size))
		wantOpen(t, v, k, b, 1, 8, protect.Packet{Header: h, Number: 9, Plain: run(size), Size: 19 + size})
	}
}

// Both phases, whatever the mask turns; the key is not asked for.
func TestP10_4Phase(t *testing.T) {
	x := newTwins(t)
	k := x.keys()
	stale := protect.Keys{Secret: name(99), Key: name(99), Mask: k.Mask}
	for number := range 200 {
		for _, phase := range []bool{true, false} {
			for _, ids := range []int{0, 1, 8, api.MaxID} {
				p := protect.Packet{Header: header.Header{Kind: header.Short, Dst: run(ids), Phase: phase}, Number: number, Plain: run(3)}
				b, _ := x.seal(k, p, number-1)
				for _, k := range []protect.Keys{k, stale} {
					if got, e := x.phase(k, b, ids); got != phase || e != api.OK {
						t.Fatalf("%s: %v, %d", text(p), got, int(e))
					}
				}
			}
		}
	}
	x.alike()
}

// The phase is told of packets that nothing opens, too; each bit that is masked counts.
func TestP10_4PhaseBits(t *testing.T) {
	v, k := start(t)
	for first := 0x40; first < 0x80; first++ {
		b := slices.Concat([]byte{byte(first)}, run(30))
		got, e := protect.Phase(v, k, b, 0)
		m, _ := v.Derive(k.Mask, "mask", b[5:21])
		if got != ((byte(first)^m[0])&4 != 0) || e != api.OK {
			t.Errorf("%x: %v, %d", first, got, int(e))
		}
	}
	count(t, v, 5)
}

// wantNoPhase asks that there is none, for that reason.
func wantNoPhase(t *testing.T, what string, v *vault.Vault, k protect.Keys, b []byte, ids int, want api.Errno) {
	t.Helper()
	if phase, e := protect.Phase(v, k, b, ids); phase || e != want {
		t.Errorf("%s: %v, %d; not error %d", what, phase, int(e), int(want))
	}
}

func TestP10_4PhaseErrors(t *testing.T) {
	v, k := start(t)
	for _, keys := range []protect.Keys{k, {Secret: k.Secret}, {Mask: name(99)}} {
		for b, e := range noHeaders(t) {
			wantNoPhase(t, fmt.Sprintf("%x", b), v, keys, []byte(b), 1, e)
			wantNoPhase(t, "no keys", v, protect.Keys{}, []byte(b), 1, api.ErrNil)
		}
		for what, b := range otherKinds(t) {
			wantNoPhase(t, what, v, keys, b, 1, api.ErrArg)
		}
		for _, ids := range []int{math.MinInt, -1, api.MaxID + 1, math.MaxInt} {
			wantNoPhase(t, "ids", v, keys, bytes.Repeat([]byte{0x44}, 99), ids, api.ErrArg)
			wantNoPhase(t, "ids, and no header", v, keys, nil, ids, api.ErrArg)
		}
		for size := range 60 {
			for ids := range api.MaxID + 1 {
				b := bytes.Repeat([]byte{0x44}, size)
				switch {
				case size < 1+ids+20:
					wantNoPhase(t, "few bytes", v, keys, b, ids, api.ErrEnd)
				case keys != k:
					wantNoPhase(t, "no mask", v, keys, b, ids, api.ErrNone)
				}
			}
		}
		for _, h := range headers() {
			if h.Kind != header.Short {
				wantNoPhase(t, "long", v, keys, sealed(t, v, k, protect.Packet{Header: h, Plain: run(30)}, -1), 8, api.ErrArg)
				few := behindNumber(t, h, 3)
				wantNoPhase(t, "long, of few bytes", v, keys, few, 8, api.ErrArg)
			}
		}
	}
}

// Keys that nobody made: ahead of all else, whatever is to be sealed or opened; partly made ones are not those.
func TestP10_3NobodysKeys(t *testing.T) {
	v, k := start(t)
	b := sealed(t, v, k, protect.Packet{Header: header.Header{Kind: header.Short}, Plain: run(9)}, -1)
	for _, x := range [][]byte{b, nil, {0}, make([]byte, 99)} {
		for _, ids := range []int{0, -1, 99} {
			for _, greatest := range []int{-1, -2} {
				shut(t, "nobody's", v, protect.Keys{}, x, ids, greatest, api.ErrNil)
			}
			wantNoPhase(t, "nobody's", v, protect.Keys{}, x, ids, api.ErrNil)
		}
	}
	for _, k := range []protect.Keys{{Secret: k.Secret}, {Key: k.Key}, {Secret: name(99)}} {
		shut(t, "no mask", v, k, b, 0, -1, api.ErrNone)
		wantNoPhase(t, "no mask", v, k, b, 0, api.ErrNone)
	}
	shut(t, "no key", v, protect.Keys{Mask: k.Mask}, b, 0, -1, api.ErrNone)
	count(t, v, 6)
}
