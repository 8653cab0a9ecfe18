package handshake_test

import (
	"bytes"
	"errors"
	"slices"
	"testing"

	"caravel/api"
	"caravel/handshake"
	"caravel/hello"
	"caravel/vault"
)

// name is the name of the term of a number: terms are numbered as they are made.
func name(n int) vault.Handle {
	v := vault.New()
	h := v.Root()
	for range n {
		h = v.Fresh()
	}
	return h
}

// made is a term that was made in one vault, and how it is made in the other.
type made struct {
	again func(v *vault.Vault) (vault.Handle, api.Errno)
	is    vault.Handle
}

// world is two vaults that go on alike: what machines do in the first is done in the second by the chapter's words.
type world struct {
	t     *testing.T
	v, w  *vault.Vault
	book  *handshake.Book
	pages map[string]page // the book by the chapter's words
	log   []made          // since the last look

	secret, half vault.Handle // a server's, and the half that clients trust
}

func newWorld(t *testing.T) *world {
	x := &world{t: t, v: vault.New(), w: vault.New(), book: handshake.NewBook(), pages: map[string]page{}}
	x.secret = x.fresh()
	x.half = x.both(func(v *vault.Vault) (vault.Handle, api.Errno) { return v.Public(x.secret) })
	return x
}

// make makes a term in the second vault.
func (x *world) make(how func(v *vault.Vault) (vault.Handle, api.Errno)) vault.Handle {
	x.t.Helper()
	h, e := how(x.w)
	if e != api.OK {
		x.t.Fatalf("the chapter's words have no term there: %d", int(e))
	}
	x.log = append(x.log, made{how, h})
	return h
}

// both makes a term in both vaults.
func (x *world) both(how func(v *vault.Vault) (vault.Handle, api.Errno)) vault.Handle {
	x.t.Helper()
	h, e := how(x.v)
	if other, f := how(x.w); h != other || e != f || e != api.OK {
		x.t.Fatalf("the vaults are unlike: %x, %x, %d, %d", h, other, int(e), int(f))
	}
	return h
}

// fresh makes a secret in both.
func (x *world) fresh() vault.Handle {
	x.t.Helper()
	h := x.v.Fresh()
	if x.w.Fresh() != h {
		x.t.Fatal("other terms were made than the chapter tells of")
	}
	return h
}

// alike asks that a call made just the terms that the chapter tells of, in that order.
func (x *world) alike() {
	x.t.Helper()
	x.fresh()
	for i, term := range x.log {
		if h, e := term.again(x.v); h != term.is || e != api.OK {
			x.t.Fatalf("the term %d of %d is %x, %d; not %x", i, len(x.log), h, int(e), term.is)
		}
	}
	x.log = nil
	x.fresh()
}

// both sides' usual configs.

func (x *world) client() handshake.Config {
	return handshake.Config{Name: "host", Trusted: x.half, Protos: []string{"b", "a"}, Params: []byte("client's")}
}

func (x *world) server() handshake.Config {
	return handshake.Config{Server: true, Name: "host", Secret: x.secret, Protos: []string{"c", "a", "b"}, Params: []byte("server's"), Life: 7}
}

// pair is a machine, and the same side by the chapter's words: each call asks that they answer alike.
type pair struct {
	*world
	m *handshake.Machine
	p *paper
}

func (x *world) side(c handshake.Config) pair {
	x.t.Helper()
	m, e := handshake.New(x.v, c, x.book)
	if e != api.OK || m == nil {
		x.t.Fatalf("New: %d", int(e))
	}
	x.alike()
	a := pair{x, m, &paper{x: x, c: c}}
	a.same(nil, nil, nil, nil)
	return a
}

// begun is a side that has begun.
func (x *world) begun(c handshake.Config) pair {
	x.t.Helper()
	a := x.side(c)
	a.start()
	return a
}

func (a pair) start() []handshake.Event {
	a.t.Helper()
	got, err := a.m.Start()
	want, wantErr := a.p.start()
	a.same(got, want, err, wantErr)
	return want
}

func (a pair) take(level int, b []byte) []handshake.Event {
	a.t.Helper()
	got, err := a.m.Take(level, b)
	want, wantErr := a.p.take(level, b)
	a.same(got, want, err, wantErr)
	return want
}

// refused asks that bytes close the machine with an alert, and that it stays so.
func (a pair) refused(level int, b []byte, alert int) {
	a.t.Helper()
	a.take(level, b)
	a.isClosed(api.Close{Code: api.Crypto + alert, Err: api.ErrAlert})
}

// isClosed asks that a machine is closed, whatever comes.
func (a pair) isClosed(want api.Close) {
	a.t.Helper()
	for level := -1; level <= 4; level++ {
		for _, b := range [][]byte{nil, {1}, a.put(hello.Message{Kind: hello.Server}), make([]byte, 65537)} {
			l, err := a.m.Take(level, b)
			c, ok := err.(*api.Close)
			if len(l) != 0 || !ok || *c != want {
				a.t.Fatalf("Take = %v, %v; not closed with %v", l, err, want)
			}
			a.take(level, b)
		}
	}
	if l, err := a.m.Start(); len(l) != 0 || err != error(api.ErrState) {
		a.t.Fatalf("Start of a closed machine = %v, %v", l, err)
	}
	a.start()
}

// same asks that a call told what the chapter's words tell, left the same behind, and made the same terms.
func (a pair) same(got, want []handshake.Event, err, wantErr error) {
	a.t.Helper()
	if !sameError(err, wantErr) {
		a.t.Fatalf("the error is %v, not %v", err, wantErr)
	}
	if !sameEvents(got, want) {
		a.t.Fatalf("the events are\n%v, not\n%v", got, want)
	}
	if info := a.m.Info(); info != a.p.told {
		a.t.Fatalf("Info is %v, not %v", info, a.p.told)
	}
	a.alike()
}

// sameError: a number is told as such, a closing as a *api.Close.
func sameError(got, want error) bool {
	var c *api.Close
	if !errors.As(want, &c) {
		return got == want
	}
	g, ok := got.(*api.Close)
	return ok && g != nil && *g == *c
}

func sameEvents(got, want []handshake.Event) bool {
	return slices.EqualFunc(got, want, func(a, b handshake.Event) bool {
		return a.Kind == b.Kind && a.Level == b.Level && a.Secret == b.Secret && bytes.Equal(a.Bytes, b.Bytes)
	})
}

// put tells a message's bytes.
func (x *world) put(m hello.Message) []byte {
	x.t.Helper()
	b, e := hello.Put(m)
	if e != api.OK {
		x.t.Fatalf("hello.Put of %v: %d", m, int(e))
	}
	return b
}

// messages tells what is said at a level, message by message.
func messages(l []handshake.Event, level int) (list [][]byte) {
	for _, e := range l {
		if e.Kind == handshake.Say && e.Level == level {
			list = append(list, bytes.Clone(e.Bytes))
		}
	}
	return list
}

// said tells what is said at a level, one behind the other.
func said(l []handshake.Event, level int) []byte { return slices.Concat(messages(l, level)...) }

// kinds tells the events' kinds.
func kinds(l []handshake.Event) (list []int) {
	for _, e := range l {
		list = append(list, e.Kind)
	}
	return list
}

// read tells the message that bytes are.
func (x *world) read(b []byte) hello.Message {
	x.t.Helper()
	m, next, e := hello.Read(b, 0)
	if e != api.OK || next != len(b) {
		x.t.Fatalf("no message: %x", b)
	}
	return m
}

// talk is a whole handshake, and what both told, call by call.
type talk struct {
	client, server        pair
	first, answer         []handshake.Event // the client's Start, the server's Take
	hands, ends, last, at []handshake.Event // the client's Takes at First and Hand, the server's of Finished, the client's at Data
}

// handshake goes through a handshake of two sides, with all that is said at a level at once.
func (x *world) handshake(c, s handshake.Config) (h talk) {
	x.t.Helper()
	h.client, h.server = x.side(c), x.side(s)
	h.first = h.client.start()
	h.server.start()
	h.answer = h.server.take(handshake.First, said(h.first, handshake.First))
	h.hands = h.client.take(handshake.First, said(h.answer, handshake.First))
	h.ends = h.client.take(handshake.Hand, said(h.answer, handshake.Hand))
	h.last = h.server.take(handshake.Hand, said(h.ends, handshake.Hand))
	h.at = h.client.take(handshake.Data, said(h.last, handshake.Data))
	a, b := h.client.m.Info(), h.server.m.Info()
	if !a.Done || a != b {
		x.t.Fatalf("the sides came to %v and %v", a, b)
	}
	return h
}

// before tells what can be used the next time.
func (h talk) before(early bool) handshake.Before {
	s := h.at[0]
	return handshake.Before{Ticket: bytes.Clone(s.Bytes), Secret: s.Secret, Proto: h.client.m.Info().Proto, Early: early}
}
