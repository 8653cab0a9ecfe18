package secrets_test

import (
	"bytes"
	"math/rand"
	"testing"

	"caravel/api"
	"caravel/secrets"
	"caravel/vault"
)

// call is one of those that are handed bytes, of a vault whose terms 1 and 2 are fresh.
type call struct {
	name string
	make func(v *vault.Vault, b []byte) (vault.Handle, api.Errno)
}

func calls() []call {
	return []call{
		{"Add", func(v *vault.Vault, b []byte) (vault.Handle, api.Errno) { return secrets.Add(v, name(1), b) }},
		{"Bind", func(v *vault.Vault, b []byte) (vault.Handle, api.Errno) { return secrets.Bind(v, name(1), b) }},
		{"Resume", func(v *vault.Vault, b []byte) (vault.Handle, api.Errno) {
			return secrets.Resume(v, name(1), name(2), b)
		}},
	}
}

// start is a vault for the calls.
func start() *vault.Vault {
	v := vault.New()
	v.Fresh()
	v.Fresh()
	return v
}

// What is handed in is not changed, its spare room neither.
func TestMemoryNotChanged(t *testing.T) {
	for _, c := range calls() {
		for _, b := range texts() {
			all := append(bytes.Clone(b), "spare room"...)
			before := bytes.Clone(all)
			term(t)(c.make(start(), all[:len(b)]))
			c.make(vault.New(), all[:len(b)])
			c.make(nil, all[:len(b)])
			if !bytes.Equal(all, before) {
				t.Errorf("%s: %d bytes were changed", c.name, len(b))
			}
		}
	}
}

// What is handed in is not kept: the caller may change it behind the call.
func TestMemoryNotKept(t *testing.T) {
	for _, c := range calls() {
		for _, b := range texts() {
			v, is := start(), term(t)
			mine := bytes.Clone(b)
			before := is(c.make(v, mine))
			for i := range mine {
				mine[i] ^= 0xff
			}
			if is(c.make(v, b)) != before {
				t.Errorf("%s: %d bytes are kept as the caller's", c.name, len(b))
			}
			if len(b) > 0 && is(c.make(v, mine)) == before {
				t.Errorf("%s: %d other bytes are the same", c.name, len(b))
			}
		}
	}
}

// What lies behind the length is not read.
func TestMemoryBehindTheLength(t *testing.T) {
	for _, c := range calls() {
		v, is := start(), term(t)
		one, two := run(40), run(40)
		for i := range two[20:] {
			two[20+i] ^= 0xff
		}
		if is(c.make(v, one[:20])) != is(c.make(v, two[:20])) || is(c.make(v, one)) == is(c.make(v, two)) {
			t.Errorf("%s: what lies behind is read, or the last bytes are not", c.name)
		}
	}
}

// A vault that is nil, or that no call made: every call, ahead of every other error.
func TestNoVault(t *testing.T) {
	w := start()
	handles := []vault.Handle{w.Root(), name(1), name(2), {}, name(99), {0: 1}}
	for _, v := range []*vault.Vault{nil, {}} {
		for range 2 { // nothing is done: it is none the second time, too
			refused(t, "Begin", api.ErrNil)(secrets.Begin(v))
			for _, h := range handles {
				refused(t, "Early", api.ErrNil)(secrets.Early(v, h))
				refused(t, "Master", api.ErrNil)(secrets.Master(v, h))
				for _, s := range handles {
					refused(t, "Hand", api.ErrNil)(secrets.Hand(v, h, s))
					refused(t, "Mark", api.ErrNil)(secrets.Mark(v, h, s))
					for _, label := range labels() {
						refused(t, "Traffic", api.ErrNil)(secrets.Traffic(v, h, label, s))
					}
					for _, b := range texts() {
						refused(t, "Resume", api.ErrNil)(secrets.Resume(v, h, s, b))
					}
				}
				for _, b := range texts() {
					refused(t, "Add", api.ErrNil)(secrets.Add(v, h, b))
					refused(t, "Bind", api.ErrNil)(secrets.Bind(v, h, b))
				}
			}
			if v.Root() != (vault.Handle{}) || v.Known(name(1)) {
				t.Error("a vault was made")
			}
		}
	}
}

// Vaults go on by themselves: what is made in one is no term of another.
func TestApart(t *testing.T) {
	v, w, is := start(), vault.New(), term(t)
	s := is(secrets.Begin(v))
	refused(t, "another vault's", api.ErrNone)(secrets.Add(w, s, nil))
	refused(t, "another vault's", api.ErrNone)(secrets.Hand(w, s, w.Root()))
	count(t, w, 1)
}

// Rows of calls by chance, of handles that are mostly terms' names, each held against the chapter's words.
func TestRandom(t *testing.T) {
	random := rand.New(rand.NewSource(1))
	pieces, words := texts()[:10], labels()[:21]
	for range 200 {
		x := newTwins(t)
		made := []vault.Handle{x.v.Root()}
		handle := func() vault.Handle {
			switch random.Intn(12) {
			case 0:
				return vault.Handle{}
			case 1:
				h := made[random.Intn(len(made))]
				h[random.Intn(16)] ^= 1 << random.Intn(8)
				return h
			case 2:
				return name(len(made) * 9)
			}
			return made[random.Intn(len(made))]
		}
		piece := func() []byte { return pieces[random.Intn(len(pieces))] }
		for range 60 {
			h := x.byChance(random.Intn(10), handle, piece, words[random.Intn(len(words))])
			if h != (vault.Handle{}) {
				made = append(made, h)
			}
		}
	}
}

// byChance makes one call.
func (x twins) byChance(which int, handle func() vault.Handle, piece func() []byte, label string) vault.Handle {
	x.t.Helper()
	switch which {
	case 0:
		return x.begin()
	case 1:
		return x.add(handle(), piece())
	case 2:
		return x.early(handle())
	case 3:
		return x.hand(handle(), handle())
	case 4:
		return x.master(handle())
	case 5:
		return x.traffic(handle(), label, handle())
	case 6:
		return x.mark(handle(), handle())
	case 7:
		return x.bind(handle(), piece())
	case 8:
		return x.resume(handle(), handle(), piece())
	}
	return x.fresh()
}
