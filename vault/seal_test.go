package vault_test

import (
	"bytes"
	"math"
	"testing"

	"caravel/api"
	"caravel/vault"
)

// opens asks that sealed bytes are opened so.
func opens(t *testing.T, v *vault.Vault, key vault.Handle, number int, also, sealed, want []byte) {
	t.Helper()
	if got, e := v.Open(key, number, also, sealed); !bytes.Equal(got, want) || e != api.OK {
		t.Fatalf("Open(%x, %d, %q, %x) = %q, %d, not %q", key, number, also, sealed, got, int(e), want)
	}
}

// shut asks that bytes are not opened so.
func shut(t *testing.T, v *vault.Vault, key vault.Handle, number int, also, sealed []byte, want api.Errno) {
	t.Helper()
	if got, e := v.Open(key, number, also, sealed); len(got) != 0 || e != want {
		t.Fatalf("Open(%x, %d, %q, %x) = %q, %d, not %d", key, number, also, sealed, got, int(e), int(want))
	}
}

// The chapter's example.
func TestP9_3Example(t *testing.T) {
	v := vault.New()
	k := v.Fresh()
	b, h := text(t)(v.Seal(k, 1, []byte("also"), []byte("ab")))
	if len(b) != 18 || b[0] != 0 || b[1] != 0 || h != name(2) {
		t.Errorf("%x", b)
	}
	opens(t, v, k, 1, []byte("also"), b, []byte("ab"))
	shut(t, v, k, 2, []byte("also"), b, api.ErrSeal)
}

// Plain bytes of every length that matters: so many bytes 0, and the name.
func TestP9_3Lengths(t *testing.T) {
	v := vault.New()
	k := v.Fresh()
	for i, n := range []int{0, 1, 2, 15, 16, 17, 100, 1200, 65534, 65535, 65536} {
		plain := bytes.Repeat([]byte{0xa5}, n)
		b, h := text(t)(v.Seal(k, i, nil, plain))
		if len(b) != n+16 || !bytes.Equal(b[:n], make([]byte, n)) || h != name(2+i) {
			t.Fatalf("%d plain bytes: %d bytes of the name %x", n, len(b), h)
		}
		opens(t, v, k, i, nil, b, plain)
	}
	for _, n := range []int{65537, 65538, 1 << 20} {
		if b, e := v.Seal(k, 0, nil, make([]byte, n)); len(b) != 0 || e != api.ErrBig {
			t.Errorf("Seal of %d bytes: %d bytes, %d", n, len(b), int(e))
		}
	}
	count(t, v, 13)
}

// Numbers from 0 on, and further bytes of any length.
func TestP9_3Numbers(t *testing.T) {
	v := vault.New()
	k := v.Fresh()
	long := bytes.Repeat([]byte("x"), 1<<18)
	for _, number := range []int{0, 1, 2, 255, 256, 1 << 32, api.MaxVar, math.MaxInt - 1, math.MaxInt} {
		for _, also := range [][]byte{nil, {}, {0}, {0, 0}, []byte("also"), long} {
			b, _ := text(t)(v.Seal(k, number, also, []byte("ab")))
			opens(t, v, k, number, also, b, []byte("ab"))
			shut(t, v, k, number^1, also, b, api.ErrSeal)
			shut(t, v, k, number, append([]byte{0}, also...), b, api.ErrSeal)
			if len(also) > 0 {
				shut(t, v, k, number, also[1:], b, api.ErrSeal)
			}
		}
	}
	next := 2 + 9*5 // nil and no bytes are the same
	count(t, v, next)
	for _, number := range []int{-1, -2, -1 << 32, math.MinInt + 1, math.MinInt} {
		if b, e := v.Seal(k, number, nil, nil); len(b) != 0 || e != api.ErrArg {
			t.Errorf("Seal under %d = %x, %d", number, b, int(e))
		}
		shut(t, v, k, number, nil, make([]byte, 20), api.ErrArg)
	}
	count(t, v, next+1)
}

// Which error comes first.
func TestP9_3Errors(t *testing.T) {
	v := vault.New()
	k := v.Fresh()
	sealed, _ := text(t)(v.Seal(k, 1, nil, []byte("ab")))
	large := make([]byte, 65537)
	for _, c := range []struct {
		name   string
		v      *vault.Vault
		key    vault.Handle
		number int
		plain  []byte
		want   api.Errno
	}{
		{"no vault", nil, vault.Handle{}, -1, large, api.ErrNil},
		{"no vault alone", nil, k, 1, nil, api.ErrNil},
		{"a plain vault", &vault.Vault{}, vault.Handle{}, -1, large, api.ErrNil},
		{"no key, and more", v, vault.Handle{}, -1, large, api.ErrNone},
		{"no key", v, name(3), 1, nil, api.ErrNone},
		{"no number, and more", v, k, -1, large, api.ErrArg},
		{"no number", v, k, math.MinInt, nil, api.ErrArg},
		{"too many bytes", v, k, 0, large, api.ErrBig},
	} {
		if b, e := c.v.Seal(c.key, c.number, nil, c.plain); len(b) != 0 || e != c.want {
			t.Errorf("%s: Seal = %x, %d", c.name, b, int(e))
		}
		want := c.want
		if want == api.ErrBig {
			want = api.ErrSeal
		}
		for _, b := range [][]byte{nil, large, make([]byte, 16), sealed[1:]} {
			shut(t, c.v, c.key, c.number, nil, b, want)
		}
		if c.want != api.ErrBig { // the sealed bytes themselves help nothing
			shut(t, c.v, c.key, c.number, nil, sealed, c.want)
		}
	}
	count(t, v, 3)
}

// A key that is nobody's, whatever is to be sealed or opened.
func TestP9_3Nobodys(t *testing.T) {
	v := start(t)
	sealed, _ := text(t)(v.Seal(name(1), 1, nil, []byte("ab")))
	for _, h := range strangers(6) {
		if b, e := v.Seal(h, 1, nil, []byte("ab")); len(b) != 0 || e != api.ErrNone {
			t.Fatalf("Seal by %x = %x, %d", h, b, int(e))
		}
		shut(t, v, h, 1, nil, sealed, api.ErrNone)
	}
	count(t, v, 6)
}

// Sealed bytes that were spoilt: a byte ahead of the name that is not 0, some too few, some too many, each bit turned.
func TestP9_3Spoilt(t *testing.T) {
	v := vault.New()
	k := v.Fresh()
	also := []byte("also")
	for _, n := range []int{0, 1, 2, 5, 16, 17, 32} {
		b, h := text(t)(v.Seal(k, 1, also, bytes.Repeat([]byte("p"), n)))
		opens(t, v, k, 1, also, b, bytes.Repeat([]byte("p"), n))
		for bit := range 8 * len(b) {
			c := bytes.Clone(b)
			c[bit/8] ^= 1 << (bit % 8)
			shut(t, v, k, 1, also, c, api.ErrSeal)
		}
		for zeros := range 50 {
			if c := append(make([]byte, zeros), h[:]...); zeros != n {
				shut(t, v, k, 1, also, c, api.ErrSeal)
			}
		}
		for few := range len(b) {
			shut(t, v, k, 1, also, b[:few], api.ErrSeal)
			if few > 0 {
				shut(t, v, k, 1, also, b[few:], api.ErrSeal)
			}
		}
		for _, more := range [][]byte{{0}, {1}, make([]byte, 16), h[:], b} {
			shut(t, v, k, 1, also, append(bytes.Clone(b), more...), api.ErrSeal)
			if len(more) > 0 {
				shut(t, v, k, 1, also, append(bytes.Clone(more), b...), api.ErrSeal)
			}
		}
	}
}

// Sealed bytes of 15, 16 and 17.
func TestP9_3Short(t *testing.T) {
	v := vault.New()
	k := v.Fresh()
	none, h := text(t)(v.Seal(k, 1, nil, nil))
	one, g := text(t)(v.Seal(k, 1, nil, []byte{9}))
	opens(t, v, k, 1, nil, none, nil)
	opens(t, v, k, 1, nil, one, []byte{9})
	if !bytes.Equal(none, h[:]) || !bytes.Equal(one, append([]byte{0}, g[:]...)) {
		t.Errorf("%x, %x", none, one)
	}
	for _, b := range [][]byte{nil, {}, {0}, h[1:], h[:15], g[:], append([]byte{0}, h[:]...), append(h[:], 0), make([]byte, 15), make([]byte, 16), make([]byte, 17)} {
		shut(t, v, k, 1, nil, b, api.ErrSeal)
	}
}

// Names of terms that are no sealed text, behind as many bytes 0 as one might take them to have; and names of terms to come.
func TestP9_3NoText(t *testing.T) {
	v, is := start(t), term(t)
	k := name(1)
	list := append(strangers(5), k, name(0), name(2), name(3), name(4), is(v.Derive(k, "", []byte("ab"))), is(v.Derive(k, "ab", nil)), is(v.Agree(k, name(3))), is(v.Agree(k, name(4))), is(v.Sign(k, []byte("ab"))), is(v.Sign(k, nil)))
	for _, h := range list {
		for zeros := range 5 {
			for _, number := range []int{0, 1, 2} {
				shut(t, v, k, number, nil, append(make([]byte, zeros), h[:]...), api.ErrSeal)
				shut(t, v, v.Root(), number, nil, append(make([]byte, zeros), h[:]...), api.ErrSeal)
			}
		}
	}
	count(t, v, 11)
}
