package protect_test

import (
	"bytes"
	"errors"
	"fmt"
	"math/rand"
	"slices"
	"testing"

	"caravel/api"
	"caravel/header"
	"caravel/protect"
	"caravel/vault"
)

// name is the name of the term of a number: terms are numbered as they are made.
func name(n int) vault.Handle {
	v := vault.New()
	h := v.Root()
	for range n {
		h = v.Fresh()
	}
	return h
}

// strangers are handles that are no term's name, in a vault of fewer terms than these.
func strangers(terms int) []vault.Handle {
	list := []vault.Handle{{}, name(terms), name(terms + 1), name(terms + 900), {0: 1}, {15: 0xff}}
	for n := range min(terms, 3) {
		for _, bit := range []int{0, 63, 64, 127} {
			h := name(n)
			h[bit/8] ^= 1 << (bit % 8)
			list = append(list, h)
		}
	}
	return list
}

// term tells a term that must be there.
func term(t *testing.T) func(h vault.Handle, e api.Errno) vault.Handle {
	return func(h vault.Handle, e api.Errno) vault.Handle {
		t.Helper()
		if e != api.OK {
			t.Fatalf("no term: %d", int(e))
		}
		return h
	}
}

// made tells keys that must be there.
func made(t *testing.T) func(k protect.Keys, e api.Errno) protect.Keys {
	return func(k protect.Keys, e api.Errno) protect.Keys {
		t.Helper()
		if e != api.OK {
			t.Fatalf("no keys: %d", int(e))
		}
		return k
	}
}

// count asks that a vault has so many terms, and makes one more.
func count(t *testing.T, v *vault.Vault, want int) {
	t.Helper()
	if v.Fresh() != name(want) {
		t.Fatalf("there are not %d terms", want)
	}
}

// twins are two vaults that go on alike: what a call does with one is done with the other by the chapter's words.
type twins struct {
	t    *testing.T
	v, w *vault.Vault
}

func newTwins(t *testing.T) twins { return twins{t, vault.New(), vault.New()} }

// fresh makes a secret in both.
func (x twins) fresh() vault.Handle {
	x.v.Fresh()
	return x.w.Fresh()
}

// keys makes those of a fresh secret in both.
func (x twins) keys() protect.Keys {
	x.t.Helper()
	secret := x.fresh()
	made(x.t)(protect.Make(x.v, secret))
	return made(x.t)(makeBy(x.w, secret))
}

// alike asks that both have as many terms; they make one more.
func (x twins) alike() {
	x.t.Helper()
	if x.v.Fresh() != x.w.Fresh() {
		x.t.Fatal("other terms were made than the chapter tells of")
	}
}

// makeBy is Make by the chapter's words.
func makeBy(w *vault.Vault, secret vault.Handle) (protect.Keys, api.Errno) {
	key, e := w.Derive(secret, "key", nil)
	if e != api.OK {
		return protect.Keys{}, e
	}
	mask, e := w.Derive(secret, "mask", nil)
	return protect.Keys{Secret: secret, Key: key, Mask: mask}, e
}

// numberSize is how many bytes a number has: the chapter's words of octet.Short.
func numberSize(number, acked int) int {
	for n := 1; n < 4; n++ {
		if uint64(number-acked)*2 < 1<<(8*n) {
			return n
		}
	}
	return 4
}

// hasNumber holds of the four kinds.
func hasNumber(kind int) bool {
	return slices.Contains([]int{header.Initial, header.Early, header.Handshake, header.Short}, kind)
}

// masked turns bit by bit what m says: of a first byte the lowest four or five, of a number all.
func masked(b []byte, at, n int, m vault.Handle) []byte {
	out := bytes.Clone(b)
	bits := 5
	if out[0] >= 0x80 {
		bits = 4
	}
	for i := range bits {
		if m[0]>>i&1 == 1 {
			out[0] ^= 1 << i
		}
	}
	for i := range 8 * n {
		if m[1+i/8]>>(i%8)&1 == 1 {
			out[at+i/8] ^= 1 << (i % 8)
		}
	}
	return out
}

// wrap seals plain bytes behind a front, and masks the packet: whatever stands in the front.
func wrap(w *vault.Vault, k protect.Keys, front []byte, at, number int, plain []byte) ([]byte, api.Errno) {
	sealed, e := w.Seal(k.Key, number, front, plain)
	if e != api.OK {
		return nil, e
	}
	b := slices.Concat(front, sealed)
	m, e := w.Derive(k.Mask, "mask", b[at+4:at+20])
	if e != api.OK {
		return nil, e
	}
	return masked(b, at, len(front)-at, m), api.OK
}

// sealBy is Seal by the chapter's words.
func sealBy(w *vault.Vault, k protect.Keys, p protect.Packet, acked int) ([]byte, api.Errno) {
	if k == (protect.Keys{}) {
		return nil, api.ErrNil
	}
	if !hasNumber(p.Header.Kind) || p.Number < 0 || p.Number > api.MaxVar || acked < -1 || acked >= p.Number {
		return nil, api.ErrArg
	}
	n := numberSize(p.Number, acked)
	if len(p.Plain) < 4-n || len(p.Plain) > 16000 {
		return nil, api.ErrArg
	}
	h := p.Header
	h.Length = n + len(p.Plain) + 16
	front, at, e := header.Put(h, uint64(p.Number), n)
	if e != api.OK {
		return nil, e
	}
	return wrap(w, k, front, at, p.Number, p.Plain)
}

// nearest is the number from 0 to MaxVar with those lowest bytes that is nearest to greatest + 1: the chapter's words of octet.Whole, tried around it.
func nearest(low uint64, n, greatest int) int {
	period := 1 << (8 * n)
	best, distance := -1, 0
	from := (greatest+1)&^(period-1) | int(low)
	for _, x := range []int{from - 2*period, from - period, from, from + period, from + 2*period} {
		d := max(x-greatest-1, greatest+1-x)
		if x >= 0 && x <= api.MaxVar && (best < 0 || d <= distance) {
			best, distance = x, d
		}
	}
	return best
}

// sight is a packet whose mask was taken off by the chapter's words.
type sight struct {
	h   header.Header
	at  int
	b   []byte // the packet, with its first byte and number unmasked
	raw []byte
	n   int
}

// lookBy is what Open and Phase begin with, by the chapter's words.
func lookBy(w *vault.Vault, k protect.Keys, b []byte, ids int, short bool) (sight, api.Errno) {
	h, at, e := header.Read(b, ids)
	if e != api.OK {
		return sight{}, e
	}
	if !hasNumber(h.Kind) || short && h.Kind != header.Short {
		return sight{}, api.ErrArg
	}
	raw := b
	if h.Kind != header.Short {
		raw = b[:at+h.Length]
	}
	if len(raw)-at < 20 {
		return sight{}, api.ErrEnd
	}
	m, e := w.Derive(k.Mask, "mask", raw[at+4:at+20])
	if e != api.OK {
		return sight{}, e
	}
	n := int(masked(raw, at, 0, m)[0]&3) + 1
	clear := masked(raw, at, n, m)
	if h.Kind == header.Short {
		h.Phase = clear[0]&4 == 4
	}
	return sight{h, at, clear, raw, n}, api.OK
}

// openBy is Open by the chapter's words; closes: the error is a *api.Close.
func openBy(w *vault.Vault, k protect.Keys, b []byte, ids, greatest int) (p protect.Packet, e api.Errno, closes bool) {
	if k == (protect.Keys{}) {
		return p, api.ErrNil, false
	}
	if greatest < -1 || greatest > api.MaxVar {
		return p, api.ErrArg, false
	}
	s, e := lookBy(w, k, b, ids, false)
	if e != api.OK {
		return p, e, false
	}
	low := uint64(0)
	for _, x := range s.b[s.at : s.at+s.n] {
		low = low<<8 | uint64(x)
	}
	number := nearest(low, s.n, greatest)
	plain, e := w.Open(k.Key, number, s.b[:s.at+s.n], s.b[s.at+s.n:])
	if e != api.OK {
		return p, e, false
	}
	zero := byte(0x0c)
	if s.h.Kind == header.Short {
		zero = 0x18
	}
	if s.b[0]&zero != 0 || len(plain) == 0 {
		return p, api.ErrForm, true
	}
	return protect.Packet{Header: s.h, Number: number, Plain: plain, Size: len(s.raw)}, api.OK, false
}

// text tells a packet, so that two can be held against each other.
func text(p protect.Packet) string {
	h := p.Header
	return fmt.Sprintf("kind %d version %d dst %x src %x token %x length %d phase %v list %v tag %x number %d plain %x size %d",
		h.Kind, h.Version, h.Dst, h.Src, h.Token, h.Length, h.Phase, h.List, h.Tag, p.Number, p.Plain, p.Size)
}

// refused asks that a packet was not opened, for that reason.
func refused(t *testing.T, what string, p protect.Packet, err error, want api.Errno, closes bool) {
	t.Helper()
	if text(p) != text(protect.Packet{}) || !errors.Is(err, want) {
		t.Fatalf("%s: %s, %v; not error %d", what, text(p), err, int(want))
	}
	var c *api.Close
	switch is := errors.As(err, &c); {
	case is != closes:
		t.Fatalf("%s: %v is a closing: %v", what, err, is)
	case closes && *c != api.Close{Code: api.Violation, Err: want}:
		t.Fatalf("%s: %+v", what, *c)
	}
}

// shut asks that Open refuses bytes, for that reason, without closing.
func shut(t *testing.T, what string, v *vault.Vault, k protect.Keys, b []byte, ids, greatest int, want api.Errno) {
	t.Helper()
	p, err := protect.Open(v, k, b, ids, greatest)
	refused(t, what, p, err, want, false)
}

// both are the vaults in which the chapter's words are followed behind a call: one makes the terms that the call made, the other has them, so that no other ones were.
func (x twins) both() []*vault.Vault { return []*vault.Vault{x.w, x.v} }

// seal seals a packet, and asks that the chapter's words tell the same.
func (x twins) seal(k protect.Keys, p protect.Packet, acked int) ([]byte, api.Errno) {
	x.t.Helper()
	b, e := protect.Seal(x.v, k, p, acked)
	for _, v := range x.both() {
		if want, wantE := sealBy(v, k, p, acked); !bytes.Equal(b, want) || e != wantE {
			x.t.Fatalf("Seal(%x, %.200s, %d) = %.100x, %d; not %.100x, %d", k, text(p), acked, b, int(e), want, int(wantE))
		}
	}
	return b, e
}

// open opens a packet, and asks that the chapter's words tell the same.
func (x twins) open(k protect.Keys, b []byte, ids, greatest int) (protect.Packet, api.Errno) {
	x.t.Helper()
	p, err := protect.Open(x.v, k, b, ids, greatest)
	what := fmt.Sprintf("Open(%x, %.100x, %d, %d)", k, b, ids, greatest)
	var e api.Errno
	for _, v := range x.both() {
		want, wantE, closes := openBy(v, k, b, ids, greatest)
		if e = wantE; e != api.OK {
			refused(x.t, what, p, err, e, closes)
		} else if text(p) != text(want) || err != nil {
			x.t.Fatalf("%s = %.200s, %v; not %.200s", what, text(p), err, text(want))
		}
	}
	return p, e
}

// phase asks for the phase, and asks that the chapter's words tell the same.
func (x twins) phase(k protect.Keys, b []byte, ids int) (bool, api.Errno) {
	x.t.Helper()
	got, e := protect.Phase(x.v, k, b, ids)
	for _, v := range x.both() {
		s, wantE := sight{}, api.ErrNil
		if k != (protect.Keys{}) {
			s, wantE = lookBy(v, k, b, ids, true)
		}
		if got != s.h.Phase || e != wantE {
			x.t.Fatalf("Phase(%x, %.100x, %d) = %v, %d; not %v, %d", k, b, ids, got, int(e), s.h.Phase, int(wantE))
		}
	}
	return got, e
}

// run is n bytes, of which no two beside each other are the same.
func run(n int) []byte {
	b := make([]byte, n)
	for i := range b {
		b[i] = byte(7*i + 1)
	}
	return b
}

// headers are ordinary ones, and those with the longest fields, of each of the four kinds.
func headers() []header.Header {
	return []header.Header{
		{Kind: header.Initial, Dst: run(8), Src: run(5), Token: run(3)},
		{Kind: header.Initial},
		{Kind: header.Initial, Dst: run(api.MaxID), Src: run(api.MaxID), Token: run(api.MaxToken)},
		{Kind: header.Early, Dst: run(8), Src: run(5)},
		{Kind: header.Early, Src: run(api.MaxID)},
		{Kind: header.Handshake, Dst: run(8), Src: run(5)},
		{Kind: header.Handshake, Dst: run(api.MaxID)},
		{Kind: header.Short, Dst: run(8)},
		{Kind: header.Short, Dst: run(8), Phase: true},
		{Kind: header.Short},
		{Kind: header.Short, Dst: run(api.MaxID), Phase: true},
	}
}

// numbers are some with the greatest that was acknowledged ahead of each, and in how many bytes they are then.
func numbers() []struct{ number, acked, n int } {
	return []struct{ number, acked, n int }{
		{0, -1, 1}, {1, 0, 1}, {126, -1, 1}, {127, 0, 1}, {1000, 873, 1}, {api.MaxVar, api.MaxVar - 1, 1},
		{127, -1, 2}, {128, 0, 2}, {1000, 872, 2}, {32766, -1, 2}, {api.MaxVar, api.MaxVar - 32767, 2},
		{32767, -1, 3}, {44253, 0, 3}, {1<<23 - 2, -1, 3}, {1 << 40, 1<<40 - 1<<23 + 1, 3},
		{1<<23 - 1, -1, 4}, {1 << 40, 1<<40 - 1<<23, 4}, {1<<31 - 2, -1, 4}, {api.MaxVar, api.MaxVar - 1<<31 + 1, 4},
	}
}

// pick tells one of a list, by chance.
func pick[T any](r *rand.Rand, list ...T) T { return list[r.Intn(len(list))] }
