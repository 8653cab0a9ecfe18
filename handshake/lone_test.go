package handshake_test

import (
	"testing"

	"caravel/api"
	"caravel/handshake"
	"caravel/hello"
	"caravel/vault"
)

// A side whose peer is played: so its terms are its own doing, and their order is to be seen.

// share makes a secret's public half, in both vaults.
func (x *world) share() vault.Handle {
	x.t.Helper()
	secret := x.fresh()
	return x.both(func(v *vault.Vault) (vault.Handle, api.Errno) { return v.Public(secret) })
}

// sign makes a signature under a script, in both vaults.
func (x *world) sign(secret, script vault.Handle) vault.Handle {
	x.t.Helper()
	return x.both(func(v *vault.Vault) (vault.Handle, api.Errno) { return v.Sign(secret, script[:]) })
}

// plays is what an honest peer's message of that kind has: marks are made in the second vault alone, so that the machine makes them first in its own.
func (a pair) plays(kind int) hello.Message {
	a.t.Helper()
	m := hello.Message{Kind: kind}
	switch kind {
	case hello.Client:
		m.Random, m.Share, m.Name, m.Protos, m.Params = a.fresh(), a.share(), "host", []string{"z", "a"}, []byte("client's")
	case hello.Server:
		m.Random, m.Share, m.Again = a.fresh(), a.share(), len(a.p.c.Before.Ticket) > 0
	case hello.Extensions:
		m.Protos, m.Params, m.Early = []string{"a"}, []byte("server's"), a.p.saysEarly()
	case hello.Identity:
		m.Name, m.Mark = a.p.c.Name, a.half
	case hello.Proof:
		m.Mark = a.sign(a.secret, a.p.script)
	case hello.Finished:
		m.Mark = a.marks()
	case hello.Ticket:
		m.Life, m.Ticket, m.Early = 9, []byte("ticket"), true
	}
	return m
}

// marks is the mark that the peer's Finished must have.
func (a pair) marks() vault.Handle {
	if a.p.hand == (vault.Handle{}) { // nobody has agreed on anything yet
		return name(1)
	}
	if a.p.c.Server {
		return a.p.mark(a.p.clientHand)
	}
	return a.p.mark(a.p.serverHand)
}

// honest is the bytes of what an honest peer says; its terms are made in both vaults.
func (a pair) honest(kind int) []byte {
	a.t.Helper()
	b := a.put(a.plays(kind))
	for _, term := range a.log {
		term.again(a.v)
	}
	a.alike()
	return b
}

// goes takes the next n messages, as an honest peer says them.
func (a pair) goes(n int) (l []handshake.Event) {
	a.t.Helper()
	for range n {
		next := a.p.expected()
		l = a.take(next.level, a.put(a.plays(next.kind)))
	}
	return l
}

// at is a side that took n messages of a played peer.
func (x *world) at(c handshake.Config, n int) pair {
	x.t.Helper()
	a := x.begun(c)
	a.goes(n)
	return a
}

// resumed is a client's config with a ticket, with which a played server goes along.
func (x *world) resumed() handshake.Config {
	c := x.client()
	c.Early = true
	c.Before = handshake.Before{Ticket: []byte("ticket"), Secret: x.fresh(), Proto: "a", Early: true}
	return c
}

// where is a side, somewhere in its handshake.
type where struct {
	what string
	make func(x *world) pair
}

// everywhere is each side at each of its steps.
func everywhere() (list []where) {
	add := func(what string, steps int, config func(x *world) handshake.Config) {
		for n := range steps + 1 {
			list = append(list, where{what + " behind " + string(rune('0'+n)), func(x *world) pair { return x.at(config(x), n) }})
		}
	}
	add("a client", 7, (*world).client)
	add("a client with a ticket", 5, (*world).resumed)
	add("a server", 2, (*world).server)
	add("a server without tickets", 2, func(x *world) handshake.Config {
		c := x.server()
		c.Life = 0
		return c
	})
	return list
}

// allKinds are the kinds of messages.
func allKinds() []int {
	return []int{hello.Client, hello.Server, hello.Extensions, hello.Identity, hello.Proof, hello.Finished, hello.Ticket}
}

// Each side with a played peer, to its end: events, terms and their order are held against the chapter's words by each call.
func TestLone(t *testing.T) {
	for _, w := range everywhere() {
		x := newWorld(t)
		a := w.make(x)
		done := len(a.p.taken) >= len(a.p.places())
		if a.m.Info().Done != done {
			t.Errorf("%s: Done is %v", w.what, a.m.Info().Done)
		}
	}
}

// A server's terms, written out by their numbers: nobody made one before.
func TestLoneServerNumbers(t *testing.T) {
	v := vault.New()
	secret := v.Fresh() // 1
	m := must(t, v, handshake.Config{Server: true, Name: "host", Secret: secret, Protos: []string{"a"}, Params: []byte("s"), Life: 7, Early: true}, handshake.NewBook())
	m.Start()         // 2: the script's beginning
	v.Fresh()         // 3: the client's secret
	v.Public(name(3)) // 4
	client, _ := hello.Put(hello.Message{Kind: hello.Client, Random: name(1), Share: name(4), Name: "host", Protos: []string{"a"}})
	// 5: the first secret; 6, 7: random and secret; 8: its half; 9: shared; 10, 11: the handshake's; 12: the client's message;
	// 13: Server; 14, 15: traffic; 16: Extensions; 17: the half of 1; 18: Identity; 19: the signature; 20: Proof; 21, 22: the mark; 23: Finished; 24: the last secret; 25, 26: traffic.
	put := func(m hello.Message) []byte {
		b, _ := hello.Put(m)
		return b
	}
	want := []handshake.Event{
		{Kind: handshake.Peer},
		{Kind: handshake.Say, Level: handshake.First, Bytes: put(hello.Message{Kind: hello.Server, Random: name(6), Share: name(8)})},
		{Kind: handshake.WriteKey, Level: handshake.Hand, Secret: name(14)},
		{Kind: handshake.ReadKey, Level: handshake.Hand, Secret: name(15)},
		{Kind: handshake.Say, Level: handshake.Hand, Bytes: put(hello.Message{Kind: hello.Extensions, Protos: []string{"a"}, Params: []byte("s")})},
		{Kind: handshake.Say, Level: handshake.Hand, Bytes: put(hello.Message{Kind: hello.Identity, Name: "host", Mark: name(17)})},
		{Kind: handshake.Say, Level: handshake.Hand, Bytes: put(hello.Message{Kind: hello.Proof, Mark: name(19)})},
		{Kind: handshake.Say, Level: handshake.Hand, Bytes: put(hello.Message{Kind: hello.Finished, Mark: name(22)})},
		{Kind: handshake.WriteKey, Level: handshake.Data, Secret: name(25)},
	}
	if l, err := m.Take(handshake.First, client); err != nil || !sameEvents(l, want) {
		t.Fatalf("Take = %v, %v; not %v", l, err, want)
	}
	// 27, 28: the client's mark; 29: its Finished; 30: the ticket; 31, 32: what is agreed for the next time; 33: the ticket's message.
	want = []handshake.Event{
		{Kind: handshake.ReadKey, Level: handshake.Data, Secret: name(26)},
		{Kind: handshake.Complete},
		{Kind: handshake.Say, Level: handshake.Data, Bytes: put(hello.Message{Kind: hello.Ticket, Life: 7, Ticket: ticketOf(30), Early: true})},
	}
	if l, err := m.Take(handshake.Hand, put(hello.Message{Kind: hello.Finished, Mark: name(28)})); err != nil || !sameEvents(l, want) {
		t.Fatalf("Take = %v, %v; not %v", l, err, want)
	}
	if info := m.Info(); info != (handshake.Info{Done: true, Proto: "a", Script: name(29), Client: name(26), Server: name(25)}) {
		t.Errorf("Info = %v", info)
	}
	count(t, v, 34)
}

// ticketOf is the ticket that is the name of the term of a number.
func ticketOf(n int) []byte {
	h := name(n)
	return h[:]
}

// A client's terms, written out by their numbers: nobody made one before.
func TestLoneClientNumbers(t *testing.T) {
	v := vault.New()
	v.Fresh()         // 1: the server's secret
	v.Public(name(1)) // 2
	m := must(t, v, handshake.Config{Name: "host", Trusted: name(2), Protos: []string{"a"}}, nil)
	m.Start()         // 3: the script's beginning; 4, 5: random and secret; 6: its half; 7: the client's message
	v.Fresh()         // 8: the server's secret of this handshake
	v.Public(name(8)) // 9
	put := func(m hello.Message) []byte {
		b, _ := hello.Put(m)
		return b
	}
	take := func(level int, b []byte, want ...handshake.Event) {
		t.Helper()
		if l, err := m.Take(level, b); err != nil || !sameEvents(l, want) {
			t.Fatalf("Take = %v, %v; not %v", l, err, want)
		}
	}
	// 10: the first secret; 11: shared; 12, 13: the handshake's; 14: Server; 15, 16: traffic.
	take(handshake.First, put(hello.Message{Kind: hello.Server, Random: name(1), Share: name(9)}),
		handshake.Event{Kind: handshake.ReadKey, Level: handshake.Hand, Secret: name(15)}, handshake.Event{Kind: handshake.WriteKey, Level: handshake.Hand, Secret: name(16)})
	take(handshake.Hand, put(hello.Message{Kind: hello.Extensions, Protos: []string{"a"}, Params: []byte("s")}), // 17
		handshake.Event{Kind: handshake.Peer, Bytes: []byte("s")})
	take(handshake.Hand, put(hello.Message{Kind: hello.Identity, Name: "host", Mark: name(2)})) // 18
	v.Sign(name(1), ticketOf(18))                                                               // 19
	take(handshake.Hand, put(hello.Message{Kind: hello.Proof, Mark: name(19)}))                 // 20
	// 21, 22: the server's mark; 23: its Finished; 24: the last secret; 25, 26: traffic; 27, 28: the client's mark; 29: its Finished.
	take(handshake.Hand, put(hello.Message{Kind: hello.Finished, Mark: name(22)}),
		handshake.Event{Kind: handshake.WriteKey, Level: handshake.Data, Secret: name(25)},
		handshake.Event{Kind: handshake.ReadKey, Level: handshake.Data, Secret: name(26)},
		handshake.Event{Kind: handshake.Say, Level: handshake.Hand, Bytes: put(hello.Message{Kind: hello.Finished, Mark: name(28)})},
		handshake.Event{Kind: handshake.Complete})
	if info := m.Info(); info != (handshake.Info{Done: true, Proto: "a", Script: name(29), Client: name(25), Server: name(26)}) {
		t.Errorf("Info = %v", info)
	}
	// 30, 31: what is agreed for the next time; a second ticket makes of the same: 32.
	take(handshake.Data, put(hello.Message{Kind: hello.Ticket, Ticket: []byte("one")}), handshake.Event{Kind: handshake.Session, Bytes: []byte("one"), Secret: name(31)})
	take(handshake.Data, put(hello.Message{Kind: hello.Ticket, Ticket: []byte("two")}), handshake.Event{Kind: handshake.Session, Bytes: []byte("two"), Secret: name(32)})
	count(t, v, 33)
}
