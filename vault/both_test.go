package vault_test

import (
	"bytes"
	"fmt"
	"math/rand"
	"testing"

	"caravel/api"
	"caravel/vault"
)

// What is sealed is opened by its key, number and further bytes, and by nothing else: all of them against all.
func TestP9_5Opened(t *testing.T) {
	type text struct {
		key         vault.Handle
		number      int
		also, plain string
		sealed      []byte
	}
	v := start(t)
	var texts []text
	for key := range 5 {
		for _, number := range []int{0, 1, 7} {
			for _, also := range []string{"", "a", "ab", "\x00"} {
				for _, plain := range []string{"", "b", "bb", "\x00"} {
					x := text{key: name(key), number: number, also: also, plain: plain}
					b, e := v.Seal(x.key, number, []byte(also), []byte(plain))
					if e != api.OK {
						t.Fatal(int(e))
					}
					x.sealed = b
					texts = append(texts, x)
				}
			}
		}
	}
	for _, x := range texts {
		for _, y := range texts {
			got, e := v.Open(y.key, y.number, []byte(y.also), x.sealed)
			if x.key == y.key && x.number == y.number && x.also == y.also {
				if string(got) != x.plain || e != api.OK {
					t.Fatalf("%v is opened as %q, %d", x, got, int(e))
				}
			} else if len(got) != 0 || e != api.ErrSeal {
				t.Fatalf("%v is opened by %v as %q, %d", x, y, got, int(e))
			}
		}
	}
	count(t, v, 5+len(texts))
}

// Signatures of one secret are not another's.
func TestP9_5Signed(t *testing.T) {
	v, is := vault.New(), term(t)
	var secrets, halves, signatures []vault.Handle
	for range 20 {
		secrets = append(secrets, v.Fresh())
	}
	for _, s := range secrets {
		halves = append(halves, is(v.Public(s)))
		signatures = append(signatures, is(v.Sign(s, []byte("x"))))
	}
	for i, half := range halves {
		for j, s := range signatures {
			want := api.ErrSign
			if i == j {
				want = api.OK
			}
			if e := v.Verify(half, []byte("x"), s); e != want {
				t.Errorf("the signature of %d is %d's: %d", j, i, int(e))
			}
		}
	}
}

// Two who have agreed on a key, seen by somebody who has all but their secrets.
func TestP9_5Secrecy(t *testing.T) {
	v, is := vault.New(), term(t)
	a, b, evil := v.Fresh(), v.Fresh(), v.Fresh()
	p, q, r := is(v.Public(a)), is(v.Public(b)), is(v.Public(evil))
	key := is(v.Derive(is(v.Agree(a, q)), "key", nil))
	if key != is(v.Derive(is(v.Agree(b, p)), "key", nil)) {
		t.Error("the two do not agree")
	}
	mine := is(v.Derive(is(v.Agree(evil, p)), "key", nil))
	hers := is(v.Derive(is(v.Agree(evil, q)), "key", nil))
	proof := is(v.Sign(b, p[:]))
	seen := list(p[:], q[:], r[:], evil[:], proof[:], mine[:], hers[:])
	for i := range 50 {
		seen = append(seen, sealed(t, v, key, fmt.Append(nil, "secret ", i), a[:], b[:]))
	}
	spied(t, v, seen)
	for _, h := range []vault.Handle{a, b, key} {
		hidden(t, v, h[:], true, seen...)
	}
	if got := v.Spied(append(seen, a[:])); len(got) != 50 {
		t.Errorf("%d texts are known", len(got))
	}
	seen = append(seen, sealed(t, v, mine, []byte("to me")))
	spied(t, v, seen, "to me")
}

// row makes calls by chance, of a vault and of its model.
type row struct {
	pair
	random *rand.Rand
	bytes  [][]byte // some that may be handed in, sealed ones too
}

// handle picks a term's name, mostly; else one to come, or none.
func (r *row) handle() vault.Handle {
	switch n := len(r.m.terms); r.random.Intn(20) {
	case 0:
		return r.m.names[n+r.random.Intn(3)]
	case 1:
		h := r.m.names[r.random.Intn(n)]
		h[r.random.Intn(16)] ^= 1 << r.random.Intn(8)
		return h
	case 2, 3, 4, 5, 6, 7, 8:
		return r.m.names[n-1-r.random.Intn(min(n, 4))]
	default:
		return r.m.names[r.random.Intn(n)]
	}
}

// piece picks some bytes, with names in them, too.
func (r *row) piece() []byte {
	switch r.random.Intn(6) {
	case 0:
		return r.bytes[r.random.Intn(len(r.bytes))]
	case 1:
		h := r.handle()
		return h[:]
	case 2:
		h, g := r.handle(), r.handle()
		return bytes.Join(list([]byte("ab")[:r.random.Intn(3)], h[:], g[:16-r.random.Intn(2)]), nil)
	default:
		return []byte([]string{"", "a", "b", "ab"}[r.random.Intn(4)])
	}
}

func (r *row) pieces() (all [][]byte) {
	for range r.random.Intn(5) {
		all = append(all, r.piece())
	}
	return all
}

func (r *row) call() {
	switch r.random.Intn(14) {
	case 0, 1:
		r.fresh()
	case 2:
		r.derive(r.handle(), string(r.piece()), r.piece())
	case 3:
		r.public(r.handle())
	case 4:
		half := r.public(r.handle())
		r.agree(r.handle(), half)
	case 5:
		r.agree(r.handle(), r.handle())
	case 6:
		h, b := r.handle(), r.piece()
		s := r.sign(h, b)
		r.verify(r.public(h), b, s)
		r.verify(r.handle(), b, s)
		r.verify(r.handle(), r.piece(), r.handle())
	case 7, 8, 9, 10:
		key, number, also := r.handle(), r.random.Intn(4)-1, r.piece()
		b := r.seal(key, number, also, r.piece())
		r.open(key, number, also, b)
		r.open(r.handle(), r.random.Intn(4)-1, r.piece(), b)
		r.bytes = append(r.bytes, b)
	case 11:
		r.open(r.handle(), r.random.Intn(4)-1, r.piece(), r.piece())
	case 12:
		r.known(r.handle())
	default:
		r.spied(r.pieces())
		r.hidden(r.piece(), r.pieces())
	}
}

// Rows of calls by chance, of a vault and of its model.
func TestP9_5Random(t *testing.T) {
	random := rand.New(rand.NewSource(9))
	for range 300 {
		r := &row{pair: newPair(t, 100), random: random, bytes: list(nil)}
		for len(r.m.terms) < 60 {
			r.call()
		}
		for range 20 {
			r.spied(append(r.pieces(), r.bytes...))
			r.hidden(r.piece(), append(r.pieces(), r.bytes...))
		}
	}
}

// roomy is a copy of bytes with spare room, and a call that fails if either has changed.
func roomy(t *testing.T, b []byte) ([]byte, func()) {
	all := append(bytes.Clone(b), "spare room"...)
	before := bytes.Clone(all)
	return all[:len(b)], func() {
		t.Helper()
		if !bytes.Equal(all, before) {
			t.Errorf("%q became %q", before, all)
		}
	}
}

// What is handed in is not changed, and not kept: the caller may change it behind the call.
func TestP9_5HandedIn(t *testing.T) {
	v, is := start(t), term(t)
	k := name(1)
	scratch := []byte("scratch")
	set := func(s string) []byte { return scratch[:copy(scratch, s)] }
	d := is(v.Derive(k, "d", set("one")))
	s := is(v.Sign(k, set("two")))
	also := []byte("also")
	b, _ := text(t)(v.Seal(k, 1, also, set("plain")))
	set("XXXXXXX")
	copy(also, "XXXX")
	if is(v.Derive(k, "d", []byte("one"))) != d || is(v.Sign(k, []byte("two"))) != s || v.Verify(name(3), []byte("two"), s) != api.OK || v.Verify(name(3), []byte("XXX"), s) != api.ErrSign {
		t.Error("bytes are kept as the caller's")
	}
	opens(t, v, k, 1, []byte("also"), b, []byte("plain"))
	shut(t, v, k, 1, []byte("XXXX"), b, api.ErrSeal)
	spied(t, v, list(b, k[:]), "plain")
	if again, _ := text(t)(v.Seal(k, 1, []byte("also"), []byte("plain"))); !bytes.Equal(again, b) {
		t.Errorf("%x is not %x", again, b)
	}
	count(t, v, 8)
}

func TestP9_5NotChanged(t *testing.T) {
	v, is := start(t), term(t)
	k := name(1)
	x, same1 := roomy(t, []byte("bytes"))
	y, same2 := roomy(t, []byte("plain"))
	is(v.Derive(k, "d", x))
	is(v.Sign(k, x))
	v.Verify(name(3), x, k)
	b, _ := text(t)(v.Seal(k, 1, x, y))
	z, same3 := roomy(t, b)
	opens(t, v, k, 1, x, z, y)
	shut(t, v, k, 2, x, z, api.ErrSeal)
	w, same4 := roomy(t, k[:])
	seen := list(z, w, []byte("behind"))
	spied(t, v, seen[:2], "plain")
	hidden(t, v, z, false, z, w)
	hidden(t, v, w, true, z)
	for _, same := range []func(){same1, same2, same3, same4} {
		same()
	}
	if string(seen[2]) != "behind" || &seen[0][0] != &z[0] || &seen[1][0] != &w[0] {
		t.Error("the list was changed")
	}
}

// What lies behind the length is not read.
func TestP9_5BehindTheLength(t *testing.T) {
	v := vault.New()
	k := v.Fresh()
	b := sealed(t, v, k, []byte("ab"))
	long := append(bytes.Clone(b), k[:]...)
	spied(t, v, list(long), "ab")
	spied(t, v, list(long[:len(long)-1]))
	spied(t, v, list(b, k[:15]))
	hidden(t, v, k[:15], false)
	seen := list(b, k[:])
	spied(t, v, seen[:1])
	shut(t, v, k, 0, nil, b[:17], api.ErrSeal)
}

// What is handed out is new memory, spare room too: whatever becomes of it, the vault answers as before.
func TestP9_5HandedOut(t *testing.T) {
	spoil := func(b []byte) {
		b = b[:cap(b)]
		for i := range b {
			b[i] = 0xee
		}
	}
	v := vault.New()
	k := v.Fresh()
	for _, plain := range []string{"", "ab", "a longer text, of more bytes than a name has"} {
		for range 3 {
			b, e := v.Seal(k, 1, nil, []byte(plain))
			want := bytes.Clone(b)
			if e != api.OK || len(b) != len(plain)+16 {
				t.Fatalf("%x, %d", b, int(e))
			}
			spoil(b)
			got, _ := v.Open(k, 1, nil, want)
			if string(got) != plain {
				t.Fatalf("%q is not %q", got, plain)
			}
			spoil(got)
			opens(t, v, k, 1, nil, want, []byte(plain))
		}
	}
	one := sealed(t, v, k, []byte("one"))
	two := sealed(t, v, k, []byte("two"))
	for range 3 {
		got := v.Spied(list(one, two, k[:]))
		spoil(got[0])
		if string(got[1]) != "two" {
			t.Error("two lists share memory")
		}
		spoil(got[1])
		for i := range got[:cap(got)] {
			got[:cap(got)][i] = []byte("x")
		}
		spied(t, v, list(one, two, k[:]), "one", "two")
		opens(t, v, k, 0, nil, one, []byte("one"))
	}
}

// A vault that is nil, or that no call made: every call.
func TestP9_5NoVault(t *testing.T) {
	w := vault.New()
	k := w.Fresh()
	half, _ := w.Public(k)
	s, _ := w.Sign(k, nil)
	b := sealed(t, w, w.Root(), []byte("ab"))
	for _, v := range []*vault.Vault{nil, {}} {
		for range 2 { // nothing is done: it is none the second time, too
			for _, h := range []vault.Handle{w.Root(), k, half, s, {}, name(9)} {
				terms := []func() (vault.Handle, api.Errno){
					func() (vault.Handle, api.Errno) { return v.Derive(h, "a", []byte("b")) },
					func() (vault.Handle, api.Errno) { return v.Public(h) },
					func() (vault.Handle, api.Errno) { return v.Agree(k, h) },
					func() (vault.Handle, api.Errno) { return v.Agree(h, half) },
					func() (vault.Handle, api.Errno) { return v.Sign(h, nil) },
				}
				for i, call := range terms {
					if x, e := call(); x != (vault.Handle{}) || e != api.ErrNil {
						t.Errorf("call %d = %x, %d", i, x, int(e))
					}
				}
				if e := v.Verify(h, nil, s); e != api.ErrNil {
					t.Errorf("Verify = %d", int(e))
				}
				if x, e := v.Seal(h, 0, nil, []byte("ab")); len(x) != 0 || e != api.ErrNil {
					t.Errorf("Seal = %x, %d", x, int(e))
				}
				shut(t, v, h, 0, nil, b, api.ErrNil)
				shut(t, v, h, -1, nil, nil, api.ErrNil)
				if v.Known(h) {
					t.Errorf("%x is known", h)
				}
				hidden(t, v, h[:], false)
				hidden(t, v, h[:], false, h[:])
				spied(t, v, list(b, h[:]))
			}
			if v.Root() != (vault.Handle{}) || v.Fresh() != (vault.Handle{}) {
				t.Error("terms of no vault")
			}
		}
	}
}
