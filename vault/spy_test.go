package vault_test

import (
	"bytes"
	"fmt"
	"math"
	"math/big"
	"testing"

	"caravel/vault"
)

// spied asks that who sees these comes to know just these plain bytes.
func spied(t *testing.T, v *vault.Vault, seen [][]byte, want ...string) {
	t.Helper()
	got := v.Spied(seen)
	if len(got) != len(want) {
		t.Fatalf("Spied = %q, not %q", got, want)
	}
	for i := range want {
		if string(got[i]) != want[i] {
			t.Fatalf("Spied = %q, not %q", got, want)
		}
	}
}

// hidden asks whether bytes are hidden from who sees others.
func hidden(t *testing.T, v *vault.Vault, b []byte, want bool, seen ...[]byte) {
	t.Helper()
	if got := v.Hidden(b, seen); got != want {
		t.Fatalf("Hidden(%x, %x) = %v", b, seen, got)
	}
}

// sealed seals plain bytes by a key, under 0 and nothing.
func sealed(t *testing.T, v *vault.Vault, key vault.Handle, plain ...[]byte) []byte {
	t.Helper()
	b, _ := text(t)(v.Seal(key, 0, nil, bytes.Join(plain, nil)))
	return b
}

// list makes a list of bytes.
func list(b ...[]byte) [][]byte { return b }

func TestP9_4Known(t *testing.T) {
	v := start(t)
	for n := range 5 {
		if !v.Known(name(n)) {
			t.Errorf("the name of %d is not known", n)
		}
	}
	for _, h := range strangers(5) {
		if v.Known(h) {
			t.Errorf("%x is known", h)
		}
	}
	for i, m := range makers() {
		h := name(5 + i)
		before := v.Known(h)
		m.make(v)
		if before || !v.Known(h) || v.Known(name(6+i)) {
			t.Fatalf("%s: known is not what is made", m.name)
		}
	}
	if w := vault.New(); !w.Known(w.Root()) || w.Known(name(1)) {
		t.Error("a new vault has the root alone")
	}
}

// The chapter's example.
func TestP9_4Example(t *testing.T) {
	v := vault.New()
	k := v.Fresh()
	b := sealed(t, v, k, []byte("ab"))
	spied(t, v, list(b))
	spied(t, v, list(b, k[:]), "ab")
	spied(t, v, list(k[:], b), "ab")
	spied(t, v, list(append(bytes.Clone(b), k[:]...)), "ab")
	spied(t, v, list(k[:])) // a key does not tell the names of what it seals
	spied(t, v, nil)
	spied(t, v, list(nil, []byte{}, nil))
}

// What everybody knows: the root, and what is made of it.
func TestP9_4Root(t *testing.T) {
	v, is := vault.New(), term(t)
	root := v.Root()
	hidden(t, v, root[:], false)
	half := is(v.Public(root))
	secret := is(v.Derive(is(v.Derive(root, "initial", []byte("id"))), "client", nil))
	all := []vault.Handle{root, half, secret, is(v.Agree(secret, half)), is(v.Sign(root, []byte("x"))), is(v.Public(secret))}
	var texts [][]byte
	var want []string
	for i, key := range all {
		hidden(t, v, key[:], false)
		texts = append(texts, sealed(t, v, key, fmt.Append(nil, i)))
		want = append(want, fmt.Sprint(i))
	}
	spied(t, v, nil)
	for i := range texts {
		hidden(t, v, texts[i], true)
		spied(t, v, texts[i:i+1], want[i])
	}
	spied(t, v, texts, want...)
}

// step is a way from terms to another one that is made of them.
type step struct {
	name string
	make func(t *testing.T, v *vault.Vault, of vault.Handle) vault.Handle
}

// steps are the ways by which who knows a term knows another.
func steps() []step {
	return []step{
		{"derived", func(t *testing.T, v *vault.Vault, of vault.Handle) vault.Handle {
			return term(t)(v.Derive(of, "label", []byte("bytes")))
		}},
		{"public", func(t *testing.T, v *vault.Vault, of vault.Handle) vault.Handle { return term(t)(v.Public(of)) }},
		{"agreed, its own secret", func(t *testing.T, v *vault.Vault, of vault.Handle) vault.Handle {
			half := term(t)(v.Public(v.Fresh()))
			return term(t)(v.Agree(of, half))
		}},
		{"agreed, the other's secret", func(t *testing.T, v *vault.Vault, of vault.Handle) vault.Handle {
			half := term(t)(v.Public(of))
			return term(t)(v.Agree(v.Fresh(), half))
		}},
		{"agreed, with itself", func(t *testing.T, v *vault.Vault, of vault.Handle) vault.Handle {
			return term(t)(v.Agree(of, term(t)(v.Public(of))))
		}},
		{"signature", func(t *testing.T, v *vault.Vault, of vault.Handle) vault.Handle {
			return term(t)(v.Sign(of, []byte("bytes")))
		}},
	}
}

// Each step leads from what is known to what is made of it, never back.
func TestP9_4Step(t *testing.T) {
	for _, s := range steps() {
		v := vault.New()
		a := v.Fresh()
		b := s.make(t, v, a)
		text := sealed(t, v, b, []byte(s.name))
		hidden(t, v, b[:], true)
		hidden(t, v, b[:], false, a[:])
		hidden(t, v, b[:], false, b[:])
		hidden(t, v, a[:], true, b[:])
		hidden(t, v, text, true, a[:], b[:])
		spied(t, v, list(text))
		spied(t, v, list(text, a[:]), s.name)
		spied(t, v, list(text, b[:]), s.name)
		back := sealed(t, v, a, []byte("back"))
		spied(t, v, list(back, b[:]))
	}
}

// Who knows both public halves does not know what is agreed, nor who knows a signature and the half that verifies it.
func TestP9_4Halves(t *testing.T) {
	v, is := start(t), term(t)
	a, b, p, q := name(1), name(2), name(3), name(4)
	both := is(v.Agree(a, q))
	s := is(v.Sign(a, []byte("x")))
	text := sealed(t, v, both, []byte("both"))
	hidden(t, v, both[:], true, p[:], q[:], s[:])
	hidden(t, v, s[:], true, p[:], b[:])
	spied(t, v, list(text, p[:], q[:], s[:]))
	spied(t, v, list(text, a[:]), "both")
	spied(t, v, list(text, b[:]), "both")
	hidden(t, v, a[:], true, p[:], q[:], s[:], both[:], b[:])
}

// Every three steps, one behind the other: the last is known by the first, and the first not by the last.
func TestP9_4Steps(t *testing.T) {
	for _, first := range steps() {
		for _, second := range steps() {
			for _, third := range steps() {
				v := vault.New()
				a := v.Fresh()
				b := first.make(t, v, a)
				c := second.make(t, v, b)
				d := third.make(t, v, c)
				text := sealed(t, v, d, []byte("d"))
				spied(t, v, list(text))
				for _, h := range []vault.Handle{a, b, c, d} {
					spied(t, v, list(text, h[:]), "d")
				}
				hidden(t, v, c[:], true, d[:])
				hidden(t, v, a[:], true, b[:], c[:], d[:])
			}
		}
	}
}

// A sealed text's name is known from bytes alone: not by its key, and not by what it seals. Its key is not known by it.
func TestP9_4SealedText(t *testing.T) {
	v, is := vault.New(), term(t)
	k := v.Fresh()
	b, h := text(t)(v.Seal(k, 1, []byte("also"), []byte("plain")))
	hidden(t, v, h[:], true, k[:], []byte("also"), []byte("plain"))
	hidden(t, v, k[:], true, b, []byte("plain"))
	hidden(t, v, h[:], false, b)
	// A sealed text is a key and a secret, too: who has its name makes of it what there is.
	d := is(v.Derive(h, "d", nil))
	spied(t, v, list(sealed(t, v, d, []byte("of d")), b), "of d")
	hidden(t, v, d[:], true, k[:])
	hidden(t, v, d[:], false, k[:], b)
}

// Bytes that terms are made of are not known with them: those that are derived of, signed, or sealed with as further ones.
func TestP9_4NotSaid(t *testing.T) {
	v, is := vault.New(), term(t)
	a, k := v.Fresh(), v.Fresh()
	d := is(v.Derive(k, string(a[:]), a[:]))
	s := is(v.Sign(k, a[:]))
	b, _ := text(t)(v.Seal(k, 1, a[:], []byte("plain")))
	hidden(t, v, a[:], true, k[:])
	hidden(t, v, a[:], true, b, k[:])
	hidden(t, v, a[:], true, k[:], d[:], s[:], b)
	hidden(t, v, a[:], true, b, s[:], d[:], k[:])
	spied(t, v, list(k[:], d[:], s[:], b, sealed(t, v, a, []byte("a"))), "plain")
}

// Sealed texts within sealed texts, and keys within them, however the numbers follow one another.
func TestP9_4Within(t *testing.T) {
	v := vault.New()
	a, b, c := v.Fresh(), v.Fresh(), v.Fresh()
	inner := sealed(t, v, c, []byte("inner"))                  // 4
	middle := sealed(t, v, b, []byte("<"), inner, []byte(">")) // 5
	outer := sealed(t, v, a, middle, c[:])                     // 6
	key := sealed(t, v, a, b[:])                               // 7
	in, mid, out := "inner", "<"+string(inner)+">", string(middle)+string(c[:])
	spied(t, v, list(outer))
	spied(t, v, list(outer, a[:]), out)
	spied(t, v, list(outer, b[:]))
	spied(t, v, list(outer, a[:], b[:]), in, mid, out)
	spied(t, v, list(outer, a[:], key), in, mid, out, string(b[:]))
	spied(t, v, list(key, outer, a[:]), in, mid, out, string(b[:]))
	spied(t, v, list(a[:], key), string(b[:]))
	spied(t, v, list(middle, b[:]), mid)
	spied(t, v, list(middle, b[:], c[:]), in, mid)
	spied(t, v, list(inner, b[:], c[:]), in)
	hidden(t, v, inner, true, outer, a[:])
	hidden(t, v, inner, false, outer, a[:], key)
	hidden(t, v, inner, true, outer, key)
	hidden(t, v, c[:], false, outer, a[:])
	hidden(t, v, b[:], true, outer, a[:])
}

// A text that seals its own key, and two that seal each other's: nothing begins.
func TestP9_4Rings(t *testing.T) {
	v := vault.New()
	a, b := v.Fresh(), v.Fresh()
	own := sealed(t, v, a, a[:])
	one, other := sealed(t, v, a, b[:]), sealed(t, v, b, a[:])
	spied(t, v, list(own, one, other))
	hidden(t, v, a[:], true, own, one, other)
	spied(t, v, list(own, one, other, a[:]), string(a[:]), string(b[:]), string(a[:]))
	spied(t, v, list(own, one, other, b[:]), string(a[:]), string(b[:]), string(a[:]))
	spied(t, v, list(one, other, b[:]), string(b[:]), string(a[:]))
}

// The order is the terms', not that of what is seen; each text is told once, however often it is seen, and texts that seal the same each.
func TestP9_4Order(t *testing.T) {
	v := vault.New()
	a, b := v.Fresh(), v.Fresh()
	var texts [][]byte
	for i, key := range []vault.Handle{b, a, b, v.Root(), a} {
		c, _ := text(t)(v.Seal(key, i, nil, []byte{"xyxzx"[i]}))
		texts = append(texts, c)
	}
	for _, order := range [][]int{{0, 1, 2, 3, 4}, {4, 3, 2, 1, 0}, {2, 4, 0, 3, 1}, {2, 2, 4, 0, 0, 3, 1, 4, 2}} {
		seen := list(a[:], b[:], a[:])
		for _, i := range order {
			seen = append(seen, texts[i])
		}
		spied(t, v, seen, "x", "y", "x", "z", "x")
		spied(t, v, list(bytes.Join(seen, nil)), "x", "y", "x", "z", "x")
		spied(t, v, seen[1:2])
		spied(t, v, seen[3:], "z")
	}
	spied(t, v, list(texts[4], texts[0], a[:]), "x")
	spied(t, v, list(texts[4], texts[1], texts[4], a[:]), "y", "x")
}

// No plain bytes are plain bytes, too.
func TestP9_4Nothing(t *testing.T) {
	v := vault.New()
	k := v.Fresh()
	none := sealed(t, v, k)
	some := sealed(t, v, k, []byte("some"))
	spied(t, v, list(none))
	spied(t, v, list(none, k[:]), "")
	spied(t, v, list(some, none, k[:]), "", "some")
}

// A name is seen at every place in bytes, whatever stands around it; not if a byte of it lacks, and not across two lists of bytes.
func TestP9_4Place(t *testing.T) {
	v := vault.New()
	k := v.Fresh()
	text := sealed(t, v, k, []byte("ab"))
	for _, fill := range []byte{0, 0xff, k[0], k[15]} {
		for ahead := range 40 {
			for behind := range 18 {
				b := bytes.Join(list(bytes.Repeat([]byte{fill}, ahead), k[:], bytes.Repeat([]byte{fill}, behind)), nil)
				spied(t, v, list(b, text), "ab")
				hidden(t, v, b, true, text)
				hidden(t, v, b, false, k[:])
			}
			b := append(bytes.Repeat([]byte{fill}, ahead), k[:]...)
			spied(t, v, list(b[:len(b)-1], text))
			hidden(t, v, b[:len(b)-1], false)
			hidden(t, v, b[:ahead], false)
		}
	}
	for cut := 1; cut < 16; cut++ {
		spied(t, v, list(k[:cut], k[cut:], text))
		spied(t, v, list(k[cut:], k[:cut], text))
		hidden(t, v, k[:cut], false)
		hidden(t, v, k[cut:], false)
		hidden(t, v, append(bytes.Clone(k[cut:]), k[:cut]...), false)
		hidden(t, v, k[:], true, k[:cut], k[cut:])
	}
	twice := append(bytes.Clone(k[:]), k[:]...)
	hidden(t, v, twice, true)
	hidden(t, v, twice, false, k[:])
	spied(t, v, list(twice, text), "ab")
}

// A name that begins with the end of another: both are there.
func TestP9_4AcrossEnds(t *testing.T) {
	v := vault.New()
	var names []vault.Handle
	for range 600 {
		names = append(names, v.Fresh())
	}
	found := map[int]int{}
	for _, one := range names {
		for _, other := range names {
			for _, common := range []int{1, 2} {
				if one == other || !bytes.Equal(one[16-common:], other[:common]) || found[common] == 3 {
					continue
				}
				found[common]++
				b := append(bytes.Clone(one[:]), other[common:]...)
				hidden(t, v, one[:], false, b)
				hidden(t, v, other[:], false, b)
				hidden(t, v, b, true, one[:])
				hidden(t, v, b, true, other[:])
				hidden(t, v, b, false, one[:], other[:])
				text := sealed(t, v, other, []byte("other"))
				spied(t, v, list(b, text), "other")
			}
		}
	}
	if found[1] == 0 || found[2] == 0 {
		t.Error("no names that have bytes in common")
	}
}

func TestP9_4Hidden(t *testing.T) {
	v, is := vault.New(), term(t)
	a, b := v.Fresh(), v.Fresh()
	d := is(v.Derive(a, "d", nil))
	root := v.Root()
	join := func(list ...vault.Handle) (all []byte) {
		for _, h := range list {
			all = append(all, h[:]...)
		}
		return all
	}
	hidden(t, v, nil, false)
	hidden(t, v, []byte{}, false, a[:])
	hidden(t, v, []byte("neither name nor term is in these bytes"), false)
	hidden(t, v, make([]byte, 100), false)
	hidden(t, v, join(a), true)
	hidden(t, v, join(a), true, nil, b[:])
	hidden(t, v, join(a), false, nil, b[:], a[:])
	hidden(t, v, join(root, a), true)
	hidden(t, v, join(root, a, root), false, a[:])
	hidden(t, v, join(a, b), true, a[:])
	hidden(t, v, join(b, a), true, a[:])
	hidden(t, v, join(b, root, a), true, b[:])
	hidden(t, v, join(b, root, a), false, b[:], a[:])
	hidden(t, v, join(d, d), false, a[:])
	hidden(t, v, join(d, a), true, d[:])
	for _, h := range strangers(4)[6:] { // no names at all
		hidden(t, v, h[:], false)
		hidden(t, v, h[:], false, a[:])
	}
	count(t, v, 4)
}

// Names of numbers that no term has yet are hidden from everybody, wherever they stand, and whoever saw them.
func TestP9_4NamesToCome(t *testing.T) {
	v := start(t)
	for _, n := range []int{5, 6, 7, 100, 65536, 1 << 31, 1 << 32, 1 << 53, 1<<62 - 1, 1 << 62, math.MaxInt - 1, math.MaxInt} {
		h := name(n)
		for ahead := range 20 {
			b := bytes.Join(list(make([]byte, ahead), h[:], []byte("end")), nil)
			hidden(t, v, b, true)
			hidden(t, v, b, true, b)
			hidden(t, v, b[:ahead+15], false)
			hidden(t, v, b[:ahead], false)
		}
		root := v.Root()
		hidden(t, v, append(root[:], h[:]...), true, h[:])
		if v.Known(h) {
			t.Errorf("the name of %d is known", n)
		}
	}
	for _, n := range []int{0, 1, 4, 5, 6, 1 << 40} { // halves that do not belong together
		big := func(n int) *big.Int { return big.NewInt(int64(n)) }
		for _, h := range []vault.Handle{pairOf(big(2*n+1), big(2*n+2)), pairOf(big(2*n+1), big(2*n)), pairOf(big(2*n), big(2*n+3)), pairOf(big(2*n), big(2*n))} {
			hidden(t, v, h[:], false)
		}
	}
}

// Once there is the term, who saw its name knows it, from wherever the name was read.
func TestP9_4NameThatCame(t *testing.T) {
	v := vault.New()
	k := v.Fresh()
	later := name(3)
	text := sealed(t, v, k, later[:]) // 2
	spied(t, v, list(text, k[:], later[:]), string(later[:]))
	hidden(t, v, later[:], true, text, k[:], later[:])
	if v.Fresh() != later {
		t.Fatal("another name came")
	}
	hidden(t, v, later[:], true)
	hidden(t, v, later[:], true, text)
	hidden(t, v, later[:], false, later[:])
	hidden(t, v, later[:], false, text, k[:])
	spied(t, v, list(sealed(t, v, later, []byte("x")), text, k[:]), string(later[:]), "x")
}

// Asking makes no term, and changes nothing.
func TestP9_4Looks(t *testing.T) {
	v := start(t)
	k := name(1)
	b := sealed(t, v, k, []byte("ab"))
	for range 3 {
		v.Known(name(6))
		hidden(t, v, b, true, k[:])
		spied(t, v, list(b, k[:]), "ab")
		spied(t, v, list(b))
	}
	count(t, v, 6)
}

// Long chains: keys of which each is made of the one before, and texts of which each has the key of the one before or behind it.
func TestP9_4Chains(t *testing.T) {
	const length = 70000
	v, is := vault.New(), term(t)
	first := v.Fresh()
	key := first
	for range length {
		key = is(v.Derive(key, "next", nil))
	}
	text := sealed(t, v, key, []byte("end"))
	spied(t, v, list(text, first[:]), "end")
	hidden(t, v, first[:], true, key[:], text)
	for _, back := range []bool{false, true} {
		var keys []vault.Handle
		for range length {
			keys = append(keys, v.Fresh())
		}
		var all []byte
		for i := range length - 1 {
			by, of := keys[i], keys[i+1]
			if back {
				by, of = of, by
			}
			all = append(all, sealed(t, v, by, of[:])...)
		}
		from, to := keys[0], keys[length-1]
		if back {
			from, to = to, from
		}
		if got := v.Spied(list(all, from[:])); len(got) != length-1 {
			t.Errorf("%d texts are known", len(got))
		}
		hidden(t, v, to[:], false, all, from[:])
		spied(t, v, list(all, to[:]))
	}
}

// Many terms of one key, and many seen bytes.
func TestP9_4Many(t *testing.T) {
	v, is := vault.New(), term(t)
	k := v.Fresh()
	var all [][]byte
	for i := range 20000 {
		d := is(v.Derive(k, "d", fmt.Append(nil, i)))
		all = append(all, sealed(t, v, d, fmt.Append(nil, i)))
	}
	spied(t, v, all)
	got := v.Spied(append(all, k[:]))
	if len(got) != len(all) {
		t.Fatalf("%d texts are known", len(got))
	}
	for i := range got {
		if string(got[i]) != fmt.Sprint(i) {
			t.Fatalf("the text %d is %q", i, got[i])
		}
	}
}
