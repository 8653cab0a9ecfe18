package protect_test

import (
	"fmt"
	"math"
	"math/rand"
	"slices"
	"testing"

	"caravel/api"
	"caravel/header"
	"caravel/protect"
	"caravel/vault"
)

// between tells numbers from acked to the one ahead of number: all of a few, of many both ends and some between.
func between(number, acked int) (list []int) {
	if number-acked <= 200 {
		for x := acked; x < number; x++ {
			list = append(list, x)
		}
		return list
	}
	for _, far := range []int{0, 1, 2, 63, 127, 128, 129, 199} {
		list = append(list, acked+far, number-1-far)
	}
	for i := range 16 {
		list = append(list, acked+(number-acked)/16*i)
	}
	return list
}

// What is sealed is opened, whichever of the numbers ahead came last.
func TestP10_5WhicheverCame(t *testing.T) {
	v, k := start(t)
	for _, h := range headers() {
		for _, c := range numbers() {
			p := protect.Packet{Header: h, Number: c.number, Plain: run(20)}
			b := sealed(t, v, k, p, c.acked)
			for _, greatest := range between(c.number, c.acked) {
				wantOpen(t, v, k, b, len(h.Dst), greatest, opened(p, c.n, len(b)))
			}
		}
	}
}

// Every number of a small range, behind every one that may have been acknowledged.
func TestP10_5SmallNumbers(t *testing.T) {
	v, k := start(t)
	for number := range 140 {
		for acked := -1; acked < number; acked++ {
			p := protect.Packet{Header: header.Header{Kind: header.Short, Phase: acked%2 == 0}, Number: number, Plain: run(3)}
			b := sealed(t, v, k, p, acked)
			for _, greatest := range []int{acked, (acked + number) / 2, number - 1} {
				wantOpen(t, v, k, b, 0, greatest, opened(p, numberSize(number, acked), len(b)))
			}
		}
	}
}

// Keys of others do not open: those of other secrets, of the other side, of another identifier, of other phases.
func TestP10_5NoOthers(t *testing.T) {
	v, k := start(t)
	next := made(t)(protect.Next(v, k))
	all := []protect.Keys{k, next, made(t)(protect.Next(v, next)), made(t)(protect.Make(v, v.Root())), made(t)(protect.Make(v, k.Key)), made(t)(protect.Make(v, k.Mask))}
	for _, dst := range [][]byte{nil, {0}, {0, 0}, run(8), run(api.MaxID)} {
		for _, server := range []bool{true, false} {
			all = append(all, made(t)(protect.Initial(v, dst, server)))
		}
	}
	for range 20 {
		all = append(all, made(t)(protect.Make(v, v.Fresh())))
	}
	for _, h := range headers() {
		for number := range 5 {
			p := protect.Packet{Header: h, Number: number, Plain: run(4)}
			for i, k := range all {
				b := sealed(t, v, k, p, number-1)
				wantOpen(t, v, k, b, len(h.Dst), number-1, opened(p, 1, len(b)))
				for j, other := range all {
					if i != j {
						shut(t, fmt.Sprintf("%d by %d", i, j), v, other, b, len(h.Dst), number-1, api.ErrSeal)
					}
				}
			}
		}
	}
}

// Keys of which just one is another's.
func TestP10_5HalfOthers(t *testing.T) {
	v, k := start(t)
	other := made(t)(protect.Make(v, v.Fresh()))
	p := protect.Packet{Header: header.Header{Kind: header.Short}, Number: 5000, Plain: run(9)}
	b := sealed(t, v, k, p, -1)
	shut(t, "key", v, protect.Keys{Secret: k.Secret, Key: other.Key, Mask: k.Mask}, b, 0, -1, api.ErrSeal)
	shut(t, "mask", v, protect.Keys{Secret: k.Secret, Key: k.Key, Mask: other.Mask}, b, 0, -1, api.ErrSeal)
	shut(t, "exchanged", v, protect.Keys{Secret: k.Secret, Key: k.Mask, Mask: k.Key}, b, 0, -1, api.ErrSeal)
}

// A packet of one vault is none of another's.
func TestP10_5OtherVault(t *testing.T) {
	v, k := start(t)
	w, same := start(t)
	b := sealed(t, v, k, protect.Packet{Header: header.Header{Kind: header.Short}, Plain: run(9)}, -1)
	if k != same {
		t.Fatal("names hang on the order alone")
	}
	shut(t, "another vault", w, same, b, 0, -1, api.ErrSeal)
}

// No bit can be turned, no byte lack or come.
func TestP10_5Spoilt(t *testing.T) {
	v, k := start(t)
	for _, h := range headers() {
		for _, c := range numbers() {
			if c.number == api.MaxVar || len(h.Token) > 3 && c.n != 2 {
				continue
			}
			for _, size := range []int{max(1, 4-c.n), 16, 30} {
				b := sealed(t, v, k, protect.Packet{Header: h, Number: c.number, Plain: run(size)}, c.acked)
				for bit := range 8 * len(b) {
					x := slices.Clone(b)
					x[bit/8] ^= 1 << (bit % 8)
					if p, err := protect.Open(v, k, x, len(h.Dst), c.acked); err == nil || text(p) != text(protect.Packet{}) {
						t.Fatalf("kind %d, bit %d of %x is turned: %s", h.Kind, bit, b, text(p))
					}
				}
				for n := range len(b) {
					if p, err := protect.Open(v, k, b[:n], len(h.Dst), c.acked); err == nil || text(p) != text(protect.Packet{}) {
						t.Fatalf("kind %d, %d bytes of %x: %s", h.Kind, n, b, text(p))
					}
				}
			}
		}
	}
}

// Nobody who sees packets comes to know what is in them; of the first ones everybody does.
func TestP10_5Spied(t *testing.T) {
	v, k := start(t)
	first := made(t)(protect.Initial(v, run(8), false))
	var seen [][]byte
	for i, h := range headers() {
		seen = append(seen, sealed(t, v, k, protect.Packet{Header: h, Number: i, Plain: []byte("secret")}, i-1))
	}
	if got := v.Spied(seen); len(got) != 0 {
		t.Errorf("%q", got)
	}
	seen = append(seen, sealed(t, v, first, protect.Packet{Header: headers()[0], Plain: []byte("first")}, -1))
	if got := v.Spied(seen); len(got) != 1 || string(got[0]) != "first" {
		t.Errorf("%q", got)
	}
}

// row makes calls by chance, in twins.
type row struct {
	twins
	r     *rand.Rand
	keys  []protect.Keys
	bytes [][]byte // packets that were sealed
}

func (x *row) anyKeys() protect.Keys {
	k := pick(x.r, x.keys...)
	switch x.r.Intn(30) {
	case 0:
		k.Key = name(500)
	case 1:
		k.Mask = vault.Handle{}
	case 2:
		k = protect.Keys{}
	case 3:
		k.Mask = pick(x.r, x.keys...).Mask
	}
	return k
}

func (x *row) header() header.Header {
	h := pick(x.r, headers()...)
	switch x.r.Intn(12) {
	case 0:
		h.Kind = x.r.Intn(9) - 1
	case 1:
		h.Dst = run(x.r.Intn(api.MaxID + 2))
	case 2:
		h.Token = run(pick(x.r, 1, 100, api.MaxToken, api.MaxToken+1))
	}
	return h
}

// number tells one, and one that may have been acknowledged, mostly.
func (x *row) number() (number, acked int) {
	number = pick(x.r, x.r.Intn(300), x.r.Intn(1<<17), 1<<x.r.Intn(62), api.MaxVar-x.r.Intn(300), x.r.Intn(5)-2, math.MaxInt)
	acked = number - 1 - pick(x.r, 0, x.r.Intn(300), x.r.Intn(1<<17), x.r.Intn(1<<24), x.r.Intn(1<<31))
	if x.r.Intn(20) > 0 {
		acked = max(acked, -1)
	}
	return number, acked
}

// spoil changes bytes, mostly.
func (x *row) spoil(b []byte) []byte {
	b = slices.Clone(b)
	switch x.r.Intn(8) {
	case 0:
		return b[:x.r.Intn(len(b)+1)]
	case 1:
		return append(b, run(x.r.Intn(60))...)
	case 2, 3:
		if len(b) > 0 {
			b[x.r.Intn(len(b))] ^= 1 << x.r.Intn(8)
		}
	case 4:
		if len(b) > 0 {
			b[0] ^= byte(1 + x.r.Intn(31))
		}
	case 5:
		return append(b, pick(x.r, x.bytes...)...)
	}
	return b
}

func (x *row) call() {
	switch x.r.Intn(8) {
	case 0, 1, 2:
		number, acked := x.number()
		p := protect.Packet{Header: x.header(), Number: number, Plain: run(x.r.Intn(40))}
		b, e := x.seal(x.anyKeys(), p, acked)
		if e == api.OK {
			x.bytes = append(x.bytes, b)
			for _, k := range x.keys {
				x.open(k, b, len(p.Header.Dst), acked)
				x.phase(k, b, len(p.Header.Dst))
			}
		}
	case 3:
		x.handMade()
	case 4:
		x.phase(x.anyKeys(), x.spoil(pick(x.r, x.bytes...)), pick(x.r, 0, 8, api.MaxID, x.r.Intn(23)-1))
	default:
		number, acked := x.number()
		x.open(x.anyKeys(), x.spoil(pick(x.r, x.bytes...)), pick(x.r, 0, 8, api.MaxID, x.r.Intn(23)-1), pick(x.r, -1, 0, number, acked))
	}
}

// handMade opens a packet whose first byte has any bits, and that may have no plain bytes.
func (x *row) handMade() {
	h, k, n := pick(x.r, headers()...), pick(x.r, x.keys...), 1+x.r.Intn(4)
	plain := run(pick(x.r, 4-n, 4, 30))
	h.Length = n + len(plain) + 16
	number := x.r.Intn(200)
	front, at, _ := header.Put(h, uint64(number), n)
	front[0] ^= pick[byte](x.r, 0, 4, 8, 12, 1)
	b, _ := wrap(x.v, k, front, at, number, plain)
	wrap(x.w, k, front, at, number, plain)
	x.bytes = append(x.bytes, b)
	x.open(k, b, len(h.Dst), pick(x.r, -1, number, number-1))
	x.phase(k, b, len(h.Dst))
}

// Rows of calls by chance, against the chapter's words, with the terms that they make.
func TestP10_5Random(t *testing.T) {
	r := rand.New(rand.NewSource(10))
	for range 60 {
		x := &row{twins: newTwins(t), r: r, bytes: [][]byte{nil, run(50)}}
		for range 3 {
			x.keys = append(x.keys, x.twins.keys())
		}
		next := made(t)(protect.Next(x.v, x.keys[0]))
		made(t)(makeBy(x.w, term(t)(x.w.Derive(x.keys[0].Secret, "next", nil))))
		x.keys = append(x.keys, next)
		for range 200 {
			x.call()
		}
		x.alike()
	}
}

// Bytes by chance are opened by nobody, and tell what the chapter says.
func TestP10_5RandomBytes(t *testing.T) {
	r := rand.New(rand.NewSource(11))
	x := newTwins(t)
	k := x.keys()
	for range 20000 {
		b := make([]byte, r.Intn(60))
		r.Read(b)
		if len(b) > 5 && r.Intn(2) == 0 {
			copy(b, []byte{0xc0 | b[0], 0, 0, 0, 1, b[5] % 3})
		}
		if _, e := x.open(k, b, r.Intn(21), r.Intn(300)-1); e == api.OK {
			t.Fatalf("%x is opened", b)
		}
		x.phase(k, b, r.Intn(21))
	}
	x.alike()
}
