package secrets_test

import (
	"slices"
	"testing"

	"caravel/api"
	"caravel/secrets"
	"caravel/vault"
)

// name is the name of the term of a number: terms are numbered as they are made.
func name(n int) vault.Handle {
	v := vault.New()
	h := v.Root()
	for range n {
		h = v.Fresh()
	}
	return h
}

// strangers are handles that are no term's name, in a vault of so many terms; the zero handle is the first.
func strangers(terms int) []vault.Handle {
	list := []vault.Handle{{}, name(terms), name(terms + 1), name(terms + 900), {0: 1}, {15: 0xff}}
	for n := range min(terms, 3) {
		for _, bit := range []int{0, 63, 64, 127} {
			h := name(n)
			h[bit/8] ^= 1 << (bit % 8)
			list = append(list, h)
		}
	}
	return list
}

// run is n bytes, of which no two beside each other are the same.
func run(n int) []byte {
	b := make([]byte, n)
	for i := range b {
		b[i] = byte(7*i + 1)
	}
	return b
}

// texts are bytes of which no two are the same: none, few, as many as a name has, and beside that, and many.
func texts() [][]byte {
	list := [][]byte{nil, {0}, {0, 0}, []byte("message"), []byte("\xff\x00é\"")}
	for _, n := range []int{1, 15, 16, 17, 32, 1200, api.MaxToken, 1 << 16, 1<<16 + 1, 1 << 20} {
		list = append(list, run(n))
	}
	return list
}

// labels are those of traffic, those that the other calls have, and some that none has.
func labels() []string {
	return []string{
		secrets.EarlyTraffic, secrets.ClientHand, secrets.ServerHand, secrets.ClientData, secrets.ServerData,
		"script", "message", "hand", "both", "master", "finished", "mark", "binder", "resume", "ticket",
		"", "\x00", "\x00\x00", "Early", "client data ", "\xff", string(run(1 << 16)), string(run(1<<16 + 1)),
	}
}

// term tells a term that must be there.
func term(t *testing.T) func(h vault.Handle, e api.Errno) vault.Handle {
	return func(h vault.Handle, e api.Errno) vault.Handle {
		t.Helper()
		if e != api.OK || h == (vault.Handle{}) {
			t.Fatalf("no term: %x, %d", h, int(e))
		}
		return h
	}
}

// refused asks that a call told no term, for that reason.
func refused(t *testing.T, what string, want api.Errno) func(h vault.Handle, e api.Errno) {
	return func(h vault.Handle, e api.Errno) {
		t.Helper()
		if h != (vault.Handle{}) || e != want {
			t.Errorf("%s: %x, %d; not error %d", what, h, int(e), int(want))
		}
	}
}

// count asks that a vault has so many terms, and makes one more.
func count(t *testing.T, v *vault.Vault, want int) {
	t.Helper()
	if v.Fresh() != name(want) {
		t.Fatalf("there are not %d terms", want)
	}
}

// step is what the next term is derived by.
type step struct {
	label string
	bytes []byte
}

// follow makes terms one of another by vault.Derive, as the chapter's words have it, and tells all of them.
func follow(v *vault.Vault, key vault.Handle, steps ...step) (all []vault.Handle, e api.Errno) {
	for _, s := range steps {
		if key, e = v.Derive(key, s.label, s.bytes); e != api.OK {
			return all, e
		}
		all = append(all, key)
	}
	return all, api.OK
}

// twins are two vaults that go on alike: what a call does with one is done with the other by the chapter's words.
type twins struct {
	t    *testing.T
	v, w *vault.Vault
}

func newTwins(t *testing.T) twins { return twins{t, vault.New(), vault.New()} }

// fresh makes a secret in both.
func (x twins) fresh() vault.Handle {
	x.v.Fresh()
	return x.w.Fresh()
}

// alike asks that both have as many terms; they make one more.
func (x twins) alike(what string) {
	x.t.Helper()
	if x.v.Fresh() != x.w.Fresh() {
		x.t.Fatalf("%s: other terms were made than the chapter tells of", what)
	}
}

// same asks that what a call answered of the first vault is what these steps tell in the second; that it made just their terms, in their order; and that it made none, if a step has an error.
func (x twins) same(what string, h vault.Handle, e api.Errno, key vault.Handle, steps ...step) vault.Handle {
	x.t.Helper()
	all, wantE := follow(x.w, key, steps...)
	var want vault.Handle
	if wantE == api.OK {
		want = all[len(all)-1]
	}
	if h != want || e != wantE {
		x.t.Fatalf("%s = %x, %d; not %x, %d", what, h, int(e), want, int(wantE))
	}
	x.alike(what)
	if again, _ := follow(x.v, key, steps...); !slices.Equal(again, all) {
		x.t.Fatalf("%s: the terms are %x, not %x", what, again, all)
	}
	x.alike(what)
	return h
}

// The calls, each with what the chapter says of it.

func (x twins) begin() vault.Handle {
	x.t.Helper()
	h, e := secrets.Begin(x.v)
	return x.same("Begin", h, e, x.w.Root(), step{"script", nil})
}

func (x twins) add(s vault.Handle, message []byte) vault.Handle {
	x.t.Helper()
	h, e := secrets.Add(x.v, s, message)
	return x.same("Add", h, e, s, step{"message", message})
}

func (x twins) early(before vault.Handle) vault.Handle {
	x.t.Helper()
	h, e := secrets.Early(x.v, before)
	if before == (vault.Handle{}) {
		before = x.w.Root()
	}
	return x.same("Early", h, e, before, step{"early", nil})
}

func (x twins) hand(early, shared vault.Handle) vault.Handle {
	x.t.Helper()
	h, e := secrets.Hand(x.v, early, shared)
	if !x.w.Known(early) {
		shared = vault.Handle{} // ErrNone, ahead of every step
	}
	return x.same("Hand", h, e, shared, step{"hand", early[:]}, step{"both", early[:]})
}

func (x twins) master(hand vault.Handle) vault.Handle {
	x.t.Helper()
	h, e := secrets.Master(x.v, hand)
	return x.same("Master", h, e, hand, step{"master", nil})
}

func (x twins) traffic(secret vault.Handle, label string, s vault.Handle) vault.Handle {
	x.t.Helper()
	h, e := secrets.Traffic(x.v, secret, label, s)
	return x.same("Traffic", h, e, secret, step{label, s[:]})
}

func (x twins) mark(traffic, s vault.Handle) vault.Handle {
	x.t.Helper()
	h, e := secrets.Mark(x.v, traffic, s)
	return x.same("Mark", h, e, traffic, step{"finished", nil}, step{"mark", s[:]})
}

func (x twins) bind(early vault.Handle, bare []byte) vault.Handle {
	x.t.Helper()
	h, e := secrets.Bind(x.v, early, bare)
	return x.same("Bind", h, e, early, step{"binder", nil}, step{"mark", bare})
}

func (x twins) resume(master, s vault.Handle, ticket []byte) vault.Handle {
	x.t.Helper()
	h, e := secrets.Resume(x.v, master, s, ticket)
	return x.same("Resume", h, e, master, step{"resume", s[:]}, step{"ticket", ticket})
}

// kinds makes a term of every kind, in both: a key or secret is any of them.
func (x twins) kinds() (list []vault.Handle) {
	x.t.Helper()
	is := term(x.t)
	for _, v := range []*vault.Vault{x.v, x.w} {
		f := v.Fresh()
		d := is(v.Derive(f, "a", nil))
		half := is(v.Public(f))
		mark := is(v.Sign(f, nil))
		b, _ := v.Seal(f, 1, nil, nil)
		list = []vault.Handle{v.Root(), f, d, half, is(v.Agree(d, half)), mark, vault.Handle(b)}
	}
	return list
}

// scripts are some that are handed in behind a key: a term's name or none, since their bytes alone are looked at.
func (x twins) scripts(more ...vault.Handle) []vault.Handle {
	x.t.Helper()
	return append(more, x.begin(), x.w.Root(), vault.Handle{}, vault.Handle{0: 1}, vault.Handle{15: 0xff}, name(1<<16))
}

// differ asks that no two terms are the same.
func differ(t *testing.T, what string, list []vault.Handle) {
	t.Helper()
	seen := map[vault.Handle]int{}
	for i, h := range list {
		if j, ok := seen[h]; ok {
			t.Fatalf("%s: %d and %d are both %x", what, j, i, h)
		}
		seen[h] = i
	}
}
