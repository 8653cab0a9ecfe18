package protect_test

import (
	"bytes"
	"testing"

	"caravel/api"
	"caravel/header"
	"caravel/protect"
	"caravel/vault"
)

// roomy is a copy of bytes with spare room, and a call that fails if either has changed.
func roomy(t *testing.T, b []byte) ([]byte, func()) {
	all := append(bytes.Clone(b), "spare room"...)
	before := bytes.Clone(all)
	return all[:len(b)], func() {
		t.Helper()
		if !bytes.Equal(all, before) {
			t.Errorf("%q became %q", before, all)
		}
	}
}

// spoil turns every bit of bytes, and of their spare room.
func spoil(b []byte) {
	b = b[:cap(b)]
	for i := range b {
		b[i] ^= 0xff
	}
}

// What is handed in is not changed, its spare room neither.
func TestMemoryNotChanged(t *testing.T) {
	for _, h := range headers() {
		v, k := start(t)
		dst, same1 := roomy(t, h.Dst)
		src, same2 := roomy(t, h.Src)
		token, same3 := roomy(t, h.Token)
		plain, same4 := roomy(t, run(40))
		h.Dst, h.Src, h.Token = dst, src, token
		p := protect.Packet{Header: h, Number: 300, Plain: plain}
		b, same5 := roomy(t, sealed(t, v, k, p, -1))
		protect.Seal(v, k, p, 300)
		wantOpen(t, v, k, b, len(dst), -1, opened(p, 2, len(b)))
		protect.Phase(v, k, b, len(dst))
		shut(t, "spoilt", v, protect.Keys{Key: k.Mask, Mask: k.Mask}, b, len(dst), -1, api.ErrSeal)
		shut(t, "no key", v, protect.Keys{Mask: k.Mask}, b, len(dst), -1, api.ErrNone)
		made(t)(protect.Initial(v, dst, true))
		term(t)(protect.Tag(v, dst, b))
		for _, same := range []func(){same1, same2, same3, same4, same5} {
			same()
		}
	}
}

// What is handed in is not kept: the caller may change it behind the call.
func TestMemoryNotKept(t *testing.T) {
	for _, h := range headers() {
		v, k := start(t)
		mine := h
		mine.Dst, mine.Src, mine.Token = bytes.Clone(h.Dst), bytes.Clone(h.Src), bytes.Clone(h.Token)
		plain := run(40)
		b := sealed(t, v, k, protect.Packet{Header: mine, Number: 300, Plain: plain}, -1)
		want := bytes.Clone(b)
		first := made(t)(protect.Initial(v, mine.Dst, true))
		tag := term(t)(protect.Tag(v, mine.Dst, plain))
		for _, x := range [][]byte{mine.Dst, mine.Src, mine.Token, plain} {
			spoil(x)
		}
		p := protect.Packet{Header: h, Number: 300, Plain: run(40)}
		if !bytes.Equal(b, want) || !bytes.Equal(sealed(t, v, k, p, -1), want) {
			t.Errorf("kind %d: %x is not %x", h.Kind, b, want)
		}
		if made(t)(protect.Initial(v, h.Dst, true)) != first || term(t)(protect.Tag(v, h.Dst, run(40))) != tag {
			t.Errorf("kind %d: bytes are kept as the caller's", h.Kind)
		}
		got, _ := protect.Open(v, k, b, len(h.Dst), -1)
		spoil(b)
		if text(got) != text(opened(p, 2, len(want))) {
			t.Errorf("kind %d: %s", h.Kind, text(got))
		}
		wantOpen(t, v, k, want, len(h.Dst), -1, opened(p, 2, len(want)))
	}
}

// What is handed out is new memory, each list of it: whatever becomes of it, the calls answer as before.
func TestMemoryHandedOut(t *testing.T) {
	for _, h := range headers() {
		v, k := start(t)
		p := protect.Packet{Header: h, Number: 300, Plain: run(40)}
		b := sealed(t, v, k, p, -1)
		want := opened(p, 2, len(b))
		spoil(sealed(t, v, k, p, -1))
		if again := sealed(t, v, k, p, -1); !bytes.Equal(again, b) {
			t.Fatalf("kind %d: %x is not %x", h.Kind, again, b)
		}
		before := bytes.Clone(b)
		lists := func(p protect.Packet) [][]byte {
			return [][]byte{p.Header.Dst, p.Header.Src, p.Header.Token, p.Plain}
		}
		for i := range lists(want) {
			got, _ := protect.Open(v, k, b, len(h.Dst), -1)
			spoil(lists(got)[i])
			for j, list := range lists(got) {
				if j != i && !bytes.Equal(list, lists(want)[j]) {
					t.Fatalf("kind %d: lists %d and %d share memory", h.Kind, i, j)
				}
			}
			if !bytes.Equal(b, before) {
				t.Fatalf("kind %d: list %d is a piece of the packet", h.Kind, i)
			}
			wantOpen(t, v, k, b, len(h.Dst), -1, want)
		}
	}
}

// What lies behind the length is not read.
func TestMemoryBehindTheLength(t *testing.T) {
	v, k := start(t)
	for _, h := range headers() {
		p := protect.Packet{Header: h, Number: 300, Plain: run(40)}
		b := sealed(t, v, k, p, -1)
		for n := range b {
			if _, err := protect.Open(v, k, b[:n], len(h.Dst), -1); err == nil {
				t.Fatalf("%d bytes of %x are opened", n, b)
			}
		}
		p.Plain = run(99)[:40]
		if again := sealed(t, v, k, p, -1); !bytes.Equal(again, b) {
			t.Errorf("%x is not %x", again, b)
		}
	}
	short := run(99)[:2]
	if b, e := protect.Seal(v, k, protect.Packet{Header: header.Header{Kind: header.Short}, Plain: short}, -1); len(b) != 0 || e != api.ErrArg {
		t.Errorf("%x, %d", b, int(e))
	}
}

// A vault that is nil, or that no call made: every call, ahead of every other error.
func TestNoVault(t *testing.T) {
	w, made := start(t)
	good := protect.Packet{Header: header.Header{Kind: header.Short, Dst: []byte{7}}, Plain: run(9)}
	b := sealed(t, w, made, good, -1)
	retry := otherKinds(t)["retry"]
	for _, v := range []*vault.Vault{nil, {}} {
		for range 2 { // nothing is done: it is none the second time, too
			for _, k := range []protect.Keys{made, {}, {Secret: name(99), Key: name(99), Mask: name(99)}} {
				if got, e := protect.Make(v, k.Secret); got != (protect.Keys{}) || e != api.ErrNil {
					t.Errorf("Make: %x, %d", got, int(e))
				}
				if got, e := protect.Next(v, k); got != (protect.Keys{}) || e != api.ErrNil {
					t.Errorf("Next: %x, %d", got, int(e))
				}
				for _, p := range []protect.Packet{good, {}, {Header: header.Header{Kind: -1}, Number: -1}} {
					if got, e := protect.Seal(v, k, p, -1); len(got) != 0 || e != api.ErrNil {
						t.Errorf("Seal: %x, %d", got, int(e))
					}
				}
				for _, x := range [][]byte{b, nil, {0}, retry} {
					for _, ids := range []int{1, -1, 99} {
						shut(t, "no vault", v, k, x, ids, -1, api.ErrNil)
						shut(t, "no vault", v, k, x, ids, -2, api.ErrNil)
						wantNoPhase(t, "no vault", v, k, x, ids, api.ErrNil)
					}
				}
			}
			for _, n := range []int{0, 8, api.MaxID, api.MaxID + 1} {
				for _, server := range []bool{true, false} {
					if got, e := protect.Initial(v, run(n), server); got != (protect.Keys{}) || e != api.ErrNil {
						t.Errorf("Initial: %x, %d", got, int(e))
					}
				}
				if got, e := protect.Tag(v, run(n), b); got != (vault.Handle{}) || e != api.ErrNil {
					t.Errorf("Tag: %x, %d", got, int(e))
				}
			}
			if v.Root() != (vault.Handle{}) {
				t.Error("a vault was made")
			}
		}
	}
}
