package protect_test

import (
	"bytes"
	"slices"
	"testing"

	"caravel/api"
	"caravel/protect"
	"caravel/vault"
)

// Keys of a fresh secret: the terms behind it, in their order.
func TestP10_1MakeNumbers(t *testing.T) {
	v := vault.New()
	want := protect.Keys{Secret: name(1), Key: name(2), Mask: name(3)}
	secret := v.Fresh()
	for range 3 { // terms that were made are not made again
		if k, e := protect.Make(v, secret); k != want || e != api.OK {
			t.Fatalf("%x, %d", k, int(e))
		}
	}
	count(t, v, 4)
}

// A secret is any term.
func TestP10_1MakeOfAll(t *testing.T) {
	x, is := newTwins(t), term(t)
	secrets := []vault.Handle{x.v.Root(), x.fresh()}
	for _, v := range []*vault.Vault{x.v, x.w} {
		d := is(v.Derive(secrets[1], "a", nil))
		half := is(v.Public(d))
		mark := is(v.Sign(half, nil))
		b, _ := v.Seal(mark, 1, nil, nil)
		secrets = append(secrets[:2], d, half, is(v.Agree(d, half)), mark, vault.Handle(b))
	}
	seen := map[vault.Handle]bool{}
	for _, s := range secrets {
		k, e := protect.Make(x.v, s)
		want, _ := makeBy(x.w, s)
		if k != want || e != api.OK || k.Secret != s {
			t.Errorf("Make(%x) = %x, %d; not %x", s, k, int(e), want)
		}
		if is(x.v.Derive(s, "key", nil)) != k.Key || is(x.v.Derive(s, "mask", []byte{})) != k.Mask {
			t.Errorf("Make(%x) = %x", s, k)
		}
		if seen[k.Key] || seen[k.Mask] || k.Key == k.Mask {
			t.Errorf("Make(%x) = %x: keys that were there", s, k)
		}
		seen[k.Key], seen[k.Mask] = true, true
	}
	x.alike()
}

func TestP10_1MakeNobodys(t *testing.T) {
	v := vault.New()
	v.Fresh()
	for _, s := range strangers(2) {
		if k, e := protect.Make(v, s); k != (protect.Keys{}) || e != api.ErrNone {
			t.Errorf("Make(%x) = %x, %d", s, k, int(e))
		}
	}
	count(t, v, 2)
}

// The first keys, by the numbers of the terms that they are made of: both sides' have one secret behind theirs.
func TestP10_1InitialNumbers(t *testing.T) {
	v := vault.New()
	client := protect.Keys{Secret: name(2), Key: name(3), Mask: name(4)}
	server := protect.Keys{Secret: name(5), Key: name(6), Mask: name(7)}
	for range 2 {
		if k, e := protect.Initial(v, []byte{1}, false); k != client || e != api.OK {
			t.Fatalf("client: %x, %d", k, int(e))
		}
		if k, e := protect.Initial(v, []byte{1}, true); k != server || e != api.OK {
			t.Fatalf("server: %x, %d", k, int(e))
		}
	}
	count(t, v, 8)
}

// Labels and bytes of the first keys; identifiers from none to MaxID bytes.
func TestP10_1Initial(t *testing.T) {
	x, is := newTwins(t), term(t)
	seen := map[protect.Keys]bool{}
	for n := range api.MaxID + 1 {
		dst := run(n)
		for _, server := range []bool{true, false} {
			k, e := protect.Initial(x.v, dst, server)
			label := map[bool]string{false: "client", true: "server"}[server]
			for _, v := range x.both() {
				both := is(v.Derive(v.Root(), "initial", dst))
				want := made(t)(makeBy(v, is(v.Derive(both, label, nil))))
				if k != want || e != api.OK || seen[k] {
					t.Errorf("Initial(%x, %v) = %x, %d; not %x", dst, server, k, int(e), want)
				}
			}
			seen[k] = true
		}
	}
	none, _ := protect.Initial(x.v, nil, true)
	if empty, e := protect.Initial(x.v, []byte{}, true); empty != none || e != api.OK {
		t.Errorf("%x, %d", empty, int(e))
	}
	x.alike()
}

func TestP10_1InitialLong(t *testing.T) {
	v := vault.New()
	for _, n := range []int{api.MaxID + 1, api.MaxID + 2, 255, 256, 276, 1 << 16} {
		for _, server := range []bool{true, false} {
			if k, e := protect.Initial(v, run(n), server); k != (protect.Keys{}) || e != api.ErrArg {
				t.Errorf("Initial of %d bytes = %x, %d", n, k, int(e))
			}
		}
	}
	count(t, v, 1)
}

// Everybody who knows the root can make the first keys; nobody those of a fresh secret.
func TestP10_1WhoKnows(t *testing.T) {
	v := vault.New()
	first := made(t)(protect.Initial(v, run(8), true))
	own := made(t)(protect.Make(v, v.Fresh()))
	next := made(t)(protect.Next(v, own))
	for _, h := range []vault.Handle{first.Secret, first.Key, first.Mask} {
		if v.Hidden(h[:], nil) {
			t.Errorf("%x is hidden", h)
		}
	}
	seen := [][]byte{own.Key[:], own.Mask[:], first.Secret[:]}
	for _, h := range []vault.Handle{own.Secret, next.Secret, next.Key} {
		if !v.Hidden(h[:], seen) {
			t.Errorf("%x is not hidden", h)
		}
	}
}

// The next phase's: its own secret, all of its terms in their order, and the mask that was.
func TestP10_1NextNumbers(t *testing.T) {
	v := vault.New()
	k := made(t)(protect.Make(v, v.Fresh()))
	want := protect.Keys{Secret: name(4), Key: name(5), Mask: name(3)}
	for range 2 {
		if next, e := protect.Next(v, k); next != want || e != api.OK {
			t.Fatalf("%x, %d", next, int(e))
		}
	}
	count(t, v, 7) // Make's own mask is made, and not told
}

func TestP10_1Next(t *testing.T) {
	x, is := newTwins(t), term(t)
	k := x.keys()
	seen := []vault.Handle{k.Key}
	for range 50 {
		next, e := protect.Next(x.v, k)
		for _, v := range x.both() {
			want := made(t)(makeBy(v, is(v.Derive(k.Secret, "next", nil))))
			want.Mask = k.Mask
			if next != want || e != api.OK || slices.Contains(seen, next.Key) {
				t.Fatalf("Next(%x) = %x, %d; not %x", k, next, int(e), want)
			}
		}
		k, seen = next, append(seen, next.Key)
	}
	x.alike()
}

// The secret alone is looked at: a mask that is nobody's stays, too.
func TestP10_1NextSecretAlone(t *testing.T) {
	v := vault.New()
	whole := made(t)(protect.Make(v, v.Fresh()))
	next := made(t)(protect.Next(v, whole))
	for _, h := range append(strangers(7), whole.Secret, whole.Key) {
		k := protect.Keys{Secret: whole.Secret, Key: h, Mask: h}
		want := protect.Keys{Secret: next.Secret, Key: next.Key, Mask: h}
		if got, e := protect.Next(v, k); got != want || e != api.OK {
			t.Errorf("Next(%x) = %x, %d", k, got, int(e))
		}
	}
	for _, h := range strangers(7) {
		for _, k := range []protect.Keys{{Secret: h}, {Secret: h, Key: whole.Key, Mask: whole.Mask}, {Secret: h, Key: h, Mask: h}} {
			if got, e := protect.Next(v, k); got != (protect.Keys{}) || e != api.ErrNone {
				t.Errorf("Next(%x) = %x, %d", k, got, int(e))
			}
		}
	}
	count(t, v, 7)
}

func TestP10_4TagNumbers(t *testing.T) {
	v := vault.New()
	for range 2 {
		if h, e := protect.Tag(v, []byte{1, 2}, []byte("abc")); h != name(1) || e != api.OK {
			t.Fatalf("%x, %d", h, int(e))
		}
	}
	if h, e := v.Derive(v.Root(), "retry", []byte("\x02\x01\x02abc")); h != name(1) || e != api.OK {
		t.Errorf("%x, %d", h, int(e))
	}
	count(t, v, 2)
}

// Identifiers from none to MaxID bytes, packets of any length.
func TestP10_4Tag(t *testing.T) {
	x, is := newTwins(t), term(t)
	for n := range api.MaxID + 1 {
		for _, size := range []int{0, 1, 2, 20, 21, 1200, 1 << 17} {
			dst, b := run(n), run(size)
			h, e := protect.Tag(x.v, dst, b)
			for _, v := range x.both() {
				want := is(v.Derive(v.Root(), "retry", slices.Concat([]byte{byte(n)}, dst, b)))
				if h != want || e != api.OK {
					t.Errorf("Tag(%x, %d bytes) = %x, %d; not %x", dst, size, h, int(e), want)
				}
			}
		}
	}
	x.alike()
}

// Where the identifier ends is told apart, though all bytes together are the same.
func TestP10_4TagApart(t *testing.T) {
	v, is := vault.New(), term(t)
	seen := map[vault.Handle]bool{}
	all := bytes.Repeat([]byte{1}, api.MaxID+2)
	for n := range api.MaxID + 1 {
		seen[is(protect.Tag(v, all[:n], all[n:]))] = true
		seen[is(protect.Tag(v, all[:n], all[n+1:]))] = true
	}
	if len(seen) != 2*(api.MaxID+1) {
		t.Errorf("%d tags", len(seen))
	}
	if is(protect.Tag(v, nil, nil)) != is(protect.Tag(v, []byte{}, []byte{})) {
		t.Error("nil is not nothing")
	}
}

func TestP10_4TagLong(t *testing.T) {
	v := vault.New()
	for _, n := range []int{api.MaxID + 1, api.MaxID + 2, 255, 256, 276} {
		for _, size := range []int{0, 40} {
			if h, e := protect.Tag(v, run(n), run(size)); h != (vault.Handle{}) || e != api.ErrArg {
				t.Errorf("Tag of %d bytes = %x, %d", n, h, int(e))
			}
		}
	}
	count(t, v, 1)
}
