package vault_test

import (
	"bytes"
	"encoding/hex"
	"fmt"
	"math"
	"math/big"
	"testing"

	"caravel/api"
	"caravel/vault"
)

// term fails unless a call answered a term.
func term(t *testing.T) func(h vault.Handle, e api.Errno) vault.Handle {
	return func(h vault.Handle, e api.Errno) vault.Handle {
		t.Helper()
		if e != api.OK || h == (vault.Handle{}) {
			t.Fatalf("%x, %d", h, int(e))
		}
		return h
	}
}

// text fails unless a call answered sealed bytes; it tells the name that they end with, too.
func text(t *testing.T) func(b []byte, e api.Errno) ([]byte, vault.Handle) {
	return func(b []byte, e api.Errno) ([]byte, vault.Handle) {
		t.Helper()
		if e != api.OK || len(b) < 16 {
			t.Fatalf("%x, %d", b, int(e))
		}
		return b, vault.Handle(b[len(b)-16:])
	}
}

// count asks that there are so many terms, and has one more then.
func count(t *testing.T, v *vault.Vault, want int) vault.Handle {
	t.Helper()
	h := v.Fresh()
	if h != name(want) {
		t.Fatalf("the next name is %x: there are not %d terms", h, want)
	}
	return h
}

// Names that are worked out by hand, of the numbers 0 to 3 and some.
func TestP9_1NamesWrittenOut(t *testing.T) {
	v := vault.New()
	list := []vault.Handle{v.Root()}
	for range 1000 {
		list = append(list, v.Fresh())
	}
	for n, want := range map[int]string{
		0:    "e220a8397b1dcdaf6e789e6aa1b965f4",
		1:    "06c45d188009454ff88bb8a8724c81ec",
		2:    "1b39896a51a8749b53cb9f0c747ea2ea",
		3:    "2c829abe1f4532e1c584133ac916ab3c",
		1000: "1e3a6ce2fd05d9ff44e823e16c039586",
	} {
		if got := hex.EncodeToString(list[n][:]); got != want || name(n) != list[n] {
			t.Errorf("the name of %d is %s, not %s", n, got, want)
		}
	}
}

// Terms of every kind, numbered as they come, against the chapter's mix.
func TestP9_1Numbers(t *testing.T) {
	v, is := vault.New(), term(t)
	key := v.Root()
	for n := 1; n < 3000; n++ {
		var got vault.Handle
		switch n % 6 {
		case 0:
			got = v.Fresh()
		case 1:
			got = is(v.Derive(key, "a", []byte("b")))
		case 2:
			got = is(v.Public(key))
		case 3:
			got = is(v.Agree(v.Root(), key))
		case 4:
			got = is(v.Sign(key, []byte("b")))
		case 5:
			_, got = text(t)(v.Seal(key, n, nil, []byte("b")))
		}
		if got != name(n) || !v.Known(got) || v.Known(name(n+1)) {
			t.Fatalf("the name of %d is %x", n, got)
		}
		key = got
	}
}

// maker makes a term, of a vault with the fresh terms 1 and 2, and their public halves 3 and 4.
type maker struct {
	name string
	make func(v *vault.Vault) (vault.Handle, api.Errno)
}

// makers make terms of which no two are the same.
func makers() (list []maker) {
	add := func(name string, make func(v *vault.Vault) (vault.Handle, api.Errno)) {
		list = append(list, maker{name, make})
	}
	for _, key := range []int{0, 1, 2, 3, 4} {
		for _, p := range [][2]string{{"", ""}, {"", "abc"}, {"a", "bc"}, {"ab", "c"}, {"abc", ""}, {"abc", "abc"}, {"", "\x00"}, {"\x00", ""}, {"\x00", "\x00"}, {"", "\x00\x00"}, {"a", "b\"c"}, {"a\"", "bc"}, {"a", "B"}, {"\xff", "é"}, {"key", ""}, {"", "key"}} {
			add(fmt.Sprintf("derived of %d %q %q", key, p[0], p[1]), func(v *vault.Vault) (vault.Handle, api.Errno) {
				return v.Derive(name(key), p[0], []byte(p[1]))
			})
		}
		for _, b := range []string{"", "a", "b", "ab", "abc", "\x00", "\x00\x00", "key"} {
			add(fmt.Sprintf("signature of %d %q", key, b), func(v *vault.Vault) (vault.Handle, api.Errno) {
				return v.Sign(name(key), []byte(b))
			})
		}
		for _, number := range []int{0, 1, 2, 1 << 32, math.MaxInt} {
			for _, p := range [][2]string{{"", ""}, {"", "abc"}, {"a", "bc"}, {"ab", "c"}, {"abc", ""}, {"", "\x00"}, {"\x00", ""}, {"\x00", "\x00"}} {
				add(fmt.Sprintf("sealed of %d %d %q %q", key, number, p[0], p[1]), func(v *vault.Vault) (h vault.Handle, e api.Errno) {
					b, e := v.Seal(name(key), number, []byte(p[0]), []byte(p[1]))
					copy(h[:], b[len(p[1]):])
					return h, e
				})
			}
		}
		if key > 2 {
			add(fmt.Sprint("public of ", key), func(v *vault.Vault) (vault.Handle, api.Errno) { return v.Public(name(key)) })
		}
	}
	for _, p := range [][2]int{{0, 3}, {0, 4}, {1, 3}, {1, 4}, {2, 4}, {3, 3}, {3, 4}, {4, 3}, {4, 4}} {
		add(fmt.Sprint("agreed of ", p), func(v *vault.Vault) (vault.Handle, api.Errno) { return v.Agree(name(p[0]), name(p[1])) })
	}
	return list
}

// start is a vault with the terms that the makers need.
func start(t *testing.T) *vault.Vault {
	t.Helper()
	v, is := vault.New(), term(t)
	for n := range 2 {
		if h := v.Fresh(); h != name(n+1) {
			t.Fatalf("%x", h)
		}
	}
	for n := range 2 {
		if h := is(v.Public(name(n + 1))); h != name(n+3) {
			t.Fatalf("%x", h)
		}
	}
	return v
}

// Each of the terms is another; made again, in whatever order, it is the same.
func TestP9_1MadeAgain(t *testing.T) {
	v, is, list := start(t), term(t), makers()
	for i, m := range list {
		if got := is(m.make(v)); got != name(5+i) {
			t.Fatalf("%s is %x, not new", m.name, got)
		}
		if got := is(m.make(v)); got != name(5+i) {
			t.Fatalf("%s at once again is %x", m.name, got)
		}
	}
	for i := range list {
		i = len(list) - 1 - i
		if got := is(list[i].make(v)); got != name(5+i) {
			t.Fatalf("%s again is %x", list[i].name, got)
		}
	}
	for n := range 2 {
		if got := is(v.Public(name(n + 1))); got != name(n+3) {
			t.Fatalf("the half of %d again is %x", n+1, got)
		}
	}
	count(t, v, 5+len(list))
}

// The same calls of two vaults answer the same; one vault's terms are nothing to another.
func TestP9_1Apart(t *testing.T) {
	v, w, list := start(t), start(t), makers()
	for _, m := range list {
		m.make(v)
	}
	if w.Known(name(5)) || w.Root() != v.Root() || w.Root() != name(0) {
		t.Error("the other vault has terms that it did not make")
	}
	for i := range list {
		i = len(list) - 1 - i
		if got, e := list[i].make(w); got != name(5+len(list)-1-i) || e != api.OK {
			t.Fatalf("%s of another vault is %x", list[i].name, got)
		}
	}
	count(t, v, 5+len(list))
	count(t, w, 5+len(list))
}

func TestP9_1FreshNeverTheSame(t *testing.T) {
	v, is := vault.New(), term(t)
	had := map[vault.Handle]int{v.Root(): 0}
	for range 5000 {
		h := v.Fresh()
		had[h]++
		had[is(v.Public(h))]++
	}
	if len(had) != 10001 {
		t.Errorf("%d names", len(had))
	}
}

// The root is a key and a secret as any other.
func TestP9_1Root(t *testing.T) {
	v, is := vault.New(), term(t)
	root := v.Root()
	half := is(v.Public(root))
	list := []vault.Handle{root, half, is(v.Derive(root, "", nil)), is(v.Agree(root, half)), is(v.Sign(root, nil))}
	sealed, h := text(t)(v.Seal(root, 0, nil, nil))
	for n, got := range append(list, h) {
		if got != name(n) {
			t.Errorf("the name of %d is %x", n, got)
		}
	}
	if v.Verify(half, nil, list[4]) != api.OK {
		t.Error("the root's signature is none")
	}
	if b, e := v.Open(root, 0, nil, sealed); len(b) != 0 || e != api.OK {
		t.Errorf("%x, %d", b, int(e))
	}
	if v.Root() != root {
		t.Error("another root")
	}
}

// Agreed from both sides, and with itself, as long as one has the other's public half.
func TestP9_1Agree(t *testing.T) {
	v, is := vault.New(), term(t)
	a, b := v.Fresh(), v.Fresh()
	c := is(v.Derive(a, "c", nil))
	d, _ := v.Sign(b, nil)
	_, e := text(t)(v.Seal(b, 1, nil, nil))
	secrets := []vault.Handle{v.Root(), a, b, c, d, e, is(v.Public(a)), is(v.Public(c))}
	agreed := map[vault.Handle]int{}
	for i, one := range secrets {
		for _, other := range secrets[i:] {
			x := is(v.Agree(one, is(v.Public(other))))
			y := is(v.Agree(other, is(v.Public(one))))
			if x != y {
				t.Errorf("%x and %x agree on %x and %x", one, other, x, y)
			}
			agreed[x]++
		}
	}
	if n := len(secrets); len(agreed) != n*(n+1)/2 {
		t.Errorf("%d terms are agreed on", len(agreed))
	}
}

// strangers are handles that are no term's, if there are less than 5000 of them.
func strangers(terms int) []vault.Handle {
	list := []vault.Handle{{}, name(terms), name(terms + 1), name(5000), name(1 << 32), name(math.MaxInt)}
	full := vault.Handle{}
	for i := range full {
		full[i] = 0xff
	}
	list = append(list, full)
	big := func(n int) *big.Int { return big.NewInt(int64(n)) }
	for n := range terms {
		list = append(list,
			pairOf(big(2*n+1), big(2*n)),
			pairOf(big(2*n+1), big(2*n+2)),
			pairOf(big(2*n), big(2*n)),
			pairOf(big(2*n), big(2*n+3)),
			pairOf(big(2*n+2), big(2*n+1)),
			pairOf(big(n), big(n)),
		)
		for bit := range 128 {
			h := name(n)
			h[bit/8] ^= 1 << (bit % 8)
			list = append(list, h)
		}
	}
	return list
}

// A handle that is no term's name, at each place, and with each of the others.
func TestP9_1Nobodys(t *testing.T) {
	v := start(t)
	half := name(3)
	for _, h := range strangers(5) {
		for call, got := range map[string]func() (vault.Handle, api.Errno){
			"Derive":       func() (vault.Handle, api.Errno) { return v.Derive(h, "a", []byte("b")) },
			"Public":       func() (vault.Handle, api.Errno) { return v.Public(h) },
			"Agree first":  func() (vault.Handle, api.Errno) { return v.Agree(h, half) },
			"Agree second": func() (vault.Handle, api.Errno) { return v.Agree(name(1), h) },
			"Agree both":   func() (vault.Handle, api.Errno) { return v.Agree(h, h) },
			"Agree neither's half": func() (vault.Handle, api.Errno) {
				return v.Agree(h, name(1))
			},
			"Sign": func() (vault.Handle, api.Errno) { return v.Sign(h, []byte("b")) },
		} {
			if x, e := got(); x != (vault.Handle{}) || e != api.ErrNone {
				t.Fatalf("%s of %x = %x, %d", call, h, x, int(e))
			}
		}
		if v.Known(h) {
			t.Fatalf("%x is known", h)
		}
	}
	count(t, v, 5) // none of the calls made a term
}

// What is no public half is nobody's to agree with: a secret itself, and every other kind of term.
func TestP9_1NoHalf(t *testing.T) {
	v, is := start(t), term(t)
	list := []vault.Handle{v.Root(), name(1), name(2), is(v.Derive(name(1), "public", nil)), is(v.Agree(name(1), name(4))), is(v.Sign(name(1), nil)), is(v.Derive(name(3), "", nil)), is(v.Sign(name(3), nil))}
	_, h := text(t)(v.Seal(name(1), 0, nil, nil))
	for _, h := range append(list, h) {
		for _, secret := range []vault.Handle{v.Root(), name(1), name(2), h} {
			if x, e := v.Agree(secret, h); x != (vault.Handle{}) || e != api.ErrNone {
				t.Errorf("Agree(%x, %x) = %x, %d", secret, h, x, int(e))
			}
		}
	}
	count(t, v, 11)
}

// A name that is a term's only later: it is nobody's until then.
func TestP9_1NameToCome(t *testing.T) {
	v, is := vault.New(), term(t)
	later := name(1)
	if _, e := v.Derive(later, "", nil); e != api.ErrNone || v.Known(later) {
		t.Error(int(e))
	}
	v.Fresh()
	if h := is(v.Derive(later, "", nil)); h != name(2) || !v.Known(later) {
		t.Errorf("%x", h)
	}
}

// Bytes of any length may be derived of and signed.
func TestP9_1LongBytes(t *testing.T) {
	v, is := vault.New(), term(t)
	long := bytes.Repeat([]byte{7}, 1<<20)
	h := is(v.Derive(v.Root(), string(long), long))
	s := is(v.Sign(v.Root(), long))
	if h != name(1) || s != name(2) || is(v.Derive(v.Root(), string(long[1:]), long)) != name(3) || is(v.Derive(v.Root(), string(long), long[1:])) != name(4) {
		t.Error("long bytes are not told apart")
	}
	if is(v.Derive(v.Root(), string(long), long)) != h || is(v.Sign(v.Root(), long)) != s || is(v.Sign(v.Root(), long[1:])) != name(5) {
		t.Error("long bytes are not the same")
	}
}

func TestP9_2Verify(t *testing.T) {
	v, is := start(t), term(t)
	for _, secret := range []int{0, 1, 2, 3} {
		half := is(v.Public(name(secret)))
		for _, b := range []string{"", "x", "y", "xy", "\x00", "\x00\x00"} {
			if e := v.Verify(half, []byte(b), name(0)); e != api.ErrSign {
				t.Errorf("the root is a signature: %d", int(e))
			}
			s := is(v.Sign(name(secret), []byte(b)))
			if e := v.Verify(half, []byte(b), s); e != api.OK {
				t.Errorf("Verify(%d, %q) = %d", secret, b, int(e))
			}
			if e := v.Verify(half, nil, s); b != "" && e != api.ErrSign {
				t.Errorf("Verify(%d, nothing) = %d", secret, int(e))
			}
			if e := v.Verify(half, []byte(b+"z"), s); e != api.ErrSign {
				t.Errorf("Verify(%d, %q and z) = %d", secret, b, int(e))
			}
		}
	}
}

// Of each secret and bytes just that one signature counts; terms of other kinds that are made of the same do not.
func TestP9_2Others(t *testing.T) {
	v, is := start(t), term(t)
	signed := map[vault.Handle][2]string{}
	list := []vault.Handle{name(0), name(1), name(2), name(3), name(4)}
	for _, secret := range []int{1, 2} {
		for _, b := range []string{"", "a", "b"} {
			s := is(v.Sign(name(secret), []byte(b)))
			signed[s] = [2]string{fmt.Sprint(secret), b}
			_, sealed := text(t)(v.Seal(name(secret), 0, nil, []byte(b)))
			list = append(list, s, sealed, is(v.Derive(name(secret), "", []byte(b))))
		}
	}
	list = append(list, strangers(5)...)
	for _, secret := range []int{1, 2} {
		for _, b := range []string{"", "a", "b", "c"} {
			for _, s := range list {
				want := api.ErrSign
				if of, ok := signed[s]; ok && of == [2]string{fmt.Sprint(secret), b} {
					want = api.OK
				}
				if e := v.Verify(name(secret+2), []byte(b), s); e != want {
					t.Errorf("Verify(%d, %q, %x) = %d, not %d", secret, b, s, int(e), int(want))
				}
			}
		}
	}
	count(t, v, 5+18)
}

// What is no public half is asked ahead of the signature, and asking makes no term.
func TestP9_2None(t *testing.T) {
	v, is := start(t), term(t)
	s := is(v.Sign(name(1), nil))
	list := append(strangers(9), name(0), name(1), name(2), s, is(v.Derive(name(3), "", nil)), is(v.Agree(name(1), name(3))))
	_, sealed := text(t)(v.Seal(name(1), 0, nil, nil))
	for _, h := range append(list, sealed) {
		for _, signature := range []vault.Handle{s, {}, h} {
			if e := v.Verify(h, nil, signature); e != api.ErrNone {
				t.Errorf("Verify(%x, nothing, %x) = %d", h, signature, int(e))
			}
		}
	}
	count(t, v, 9)
}

// A signature that is made only later is none until then.
func TestP9_2ToCome(t *testing.T) {
	v, is := start(t), term(t)
	if e := v.Verify(name(3), []byte("a"), name(5)); e != api.ErrSign {
		t.Error(int(e))
	}
	if s := is(v.Sign(name(1), []byte("a"))); s != name(5) || v.Verify(name(3), []byte("a"), s) != api.OK {
		t.Errorf("%x", s)
	}
}
