package handshake_test

import (
	"bytes"
	"slices"
	"testing"

	"caravel/api"
	"caravel/handshake"
	"caravel/hello"
	"caravel/secrets"
	"caravel/vault"
)

func TestP13_5OtherName(t *testing.T) {
	for _, other := range []string{"", "hos", "host\x00", "Host", "other", text(255)} {
		x := newWorld(t)
		a := x.begun(x.server())
		a.refused(handshake.First, a.changed(func(m *hello.Message) { m.Name = other }), 112)
		a = x.begun(x.server()) // ahead of all else that is wrong
		a.refused(handshake.First, a.changed(func(m *hello.Message) {
			m.Name, m.Protos, m.Share = other, []string{"z"}, vault.Handle{}
		}), 112)
		if a.m.Info() != (handshake.Info{}) {
			t.Errorf("Info = %v", a.m.Info())
		}
	}
}

// The first of the server's own protos that is said, in whatever order the client says them.
func TestP13_5Proto(t *testing.T) {
	for _, c := range []struct {
		own, said []string
		want      string
	}{
		{[]string{"a"}, []string{"a"}, "a"},
		{[]string{"c", "a", "b"}, []string{"b", "a"}, "a"},
		{[]string{"c", "a", "b"}, []string{"b", "a", "c"}, "c"},
		{[]string{"c", "a", "b"}, []string{"b"}, "b"},
		{[]string{"a", "a"}, []string{"b", "a", "a"}, "a"},
		{protos(300, 5), []string{"q", text(5), text(4)}, "q"},
		{protos(300, 5), []string{text(5), text(4)}, text(5)},
		{[]string{"c"}, []string{"b", "a"}, ""},
		{[]string{"a"}, []string{"A", "aa", "a\x00"}, ""},
		{nil, []string{"a"}, ""},
	} {
		x := newWorld(t)
		s := x.server()
		s.Protos = c.own
		a := x.begun(s)
		b := a.changed(func(m *hello.Message) { m.Protos = c.said })
		if c.want == "" {
			a.refused(handshake.First, b, 120)
			continue
		}
		l := a.take(handshake.First, b)
		if a.m.Info().Proto != c.want || !slices.Equal(x.read(messages(l, handshake.Hand)[0]).Protos, []string{c.want}) {
			t.Errorf("of %q and %q: %v", c.own, c.said, a.m.Info())
		}
	}
}

// A proto that is not there comes ahead of a binder and a share that are none.
func TestP13_5ProtoFirst(t *testing.T) {
	x := newWorld(t)
	h := x.handshake(x.client(), x.server())
	ticket := h.before(false).Ticket
	a := x.begun(x.server())
	a.refused(handshake.First, a.changed(func(m *hello.Message) {
		m.Protos, m.Share, m.Ticket, m.Binder = []string{"z"}, vault.Handle{}, ticket, vault.Handle{0: 1}
	}), 120)
	a = x.begun(x.server())
	a.refused(handshake.First, a.changed(func(m *hello.Message) {
		m.Share, m.Ticket, m.Binder = vault.Handle{}, ticket, vault.Handle{0: 1}
	}), 51)
	if a.m.Info() != (handshake.Info{}) {
		t.Errorf("Info = %v", a.m.Info())
	}
}

// Shares that are no public half: the terms ahead of it are made.
func TestP13_5Share(t *testing.T) {
	for i := range len(strangers()) + 3 {
		x := newWorld(t)
		bad := append(strangers(), x.v.Root(), x.secret, x.sign(x.secret, x.half))[i]
		a := x.begun(x.server())
		a.refused(handshake.First, a.changed(func(m *hello.Message) { m.Share = bad }), 47)
		if a.m.Info() != (handshake.Info{}) {
			t.Errorf("Info = %v", a.m.Info())
		}
	}
}

// What a server tells, as the example has it.
func TestP13_5Events(t *testing.T) {
	x := newWorld(t)
	a := x.begun(x.server())
	l := a.goes(1)
	want := []int{handshake.Peer, handshake.Say, handshake.WriteKey, handshake.ReadKey, handshake.Say, handshake.Say, handshake.Say, handshake.Say, handshake.WriteKey}
	if !slices.Equal(kinds(l), want) || string(l[0].Bytes) != "client's" {
		t.Fatalf("%v", l)
	}
	var said []int
	for _, b := range append(messages(l, handshake.First), messages(l, handshake.Hand)...) {
		said = append(said, x.read(b).Kind)
	}
	if !slices.Equal(said, []int{hello.Server, hello.Extensions, hello.Identity, hello.Proof, hello.Finished}) {
		t.Errorf("it says %v", said)
	}
	identity, proof := x.read(l[5].Bytes), x.read(l[6].Bytes)
	if identity.Name != "host" || identity.Mark != x.half || x.v.Known(proof.Mark) == false {
		t.Errorf("%v, %v", identity, proof)
	}
	l = a.goes(1)
	if !slices.Equal(kinds(l), []int{handshake.ReadKey, handshake.Complete, handshake.Say}) {
		t.Errorf("%v", kinds(l))
	}
}

// The client's mark: another one, the server's own, that of another script.
func TestP13_5Finished(t *testing.T) {
	for i := range len(strangers()) + 2 {
		x := newWorld(t)
		a := x.at(x.server(), 1)
		bad := append(strangers(), a.honestMark(a.p.serverHand), a.p.clientHand)[i]
		a.refused(handshake.Hand, a.changed(func(m *hello.Message) { m.Mark = bad }), 51)
		if a.m.Info().Done {
			t.Error("it is done")
		}
	}
	x := newWorld(t)
	old := x.at(x.server(), 1)
	finished := old.honest(hello.Finished)
	a := x.at(x.server(), 1)
	a.refused(handshake.Hand, finished, 51)
}

// Behind its end a server expects nothing.
func TestP13_5Nothing(t *testing.T) {
	for _, life := range []int{0, 7} {
		for _, level := range []int{handshake.First, handshake.Hand, handshake.Data} {
			for _, kind := range allKinds() {
				x := newWorld(t)
				s := x.server()
				s.Life = life
				a := x.at(s, 2)
				a.refused(level, a.honest(kind), 10)
				if !a.m.Info().Done {
					t.Error("it is done no more")
				}
			}
		}
	}
}

// A ticket is said if Life is above 0: Life and Early as the config has them, and a fresh term's name.
func TestP13_5Ticket(t *testing.T) {
	for _, life := range []int{0, 1, 7, 1<<32 - 1} {
		for _, early := range []bool{false, true} {
			x := newWorld(t)
			s := x.server()
			s.Life, s.Early = life, early
			last := x.at(s, 1).goes(1)
			if life == 0 {
				if !slices.Equal(kinds(last), []int{handshake.ReadKey, handshake.Complete}) {
					t.Errorf("%v", kinds(last))
				}
				continue
			}
			m := x.read(last[2].Bytes)
			if m.Kind != hello.Ticket || m.Life != life || m.Early != early || len(m.Ticket) != 16 || !x.v.Known(vault.Handle(m.Ticket)) {
				t.Errorf("%v", m)
			}
			if last[2].Level != handshake.Data {
				t.Errorf("at %d", last[2].Level)
			}
		}
	}
}

// A ticket that the book has: the handshake is shorter, and the secrets are made of what was agreed before.
func TestP13_5Again(t *testing.T) {
	x := newWorld(t)
	c := x.client()
	h := x.handshake(c, x.server())
	c.Before = h.before(true)
	for range 3 { // a ticket can be used again
		h = x.handshake(c, x.server())
		if info := h.server.m.Info(); !info.Again || info.Early || info.Proto != "a" {
			t.Errorf("%v", info)
		}
		if !x.read(said(h.answer, handshake.First)).Again || len(messages(h.answer, handshake.Hand)) != 2 {
			t.Errorf("%v", kinds(h.answer))
		}
		if !slices.Equal(kinds(h.hands), []int{handshake.ReadKey, handshake.WriteKey}) {
			t.Errorf("%v", kinds(h.hands))
		}
	}
	c.Before = h.before(true) // the ticket of a handshake by a ticket
	if !x.handshake(c, x.server()).server.m.Info().Again {
		t.Error("it is not gone along with")
	}
}

// A ticket that the book does not have is passed over, with its binder.
func TestP13_5UnknownTicket(t *testing.T) {
	for i := range 5 {
		x := newWorld(t)
		c := x.client()
		c.Early = true
		c.Before = x.handshake(c, x.server()).before(true)
		switch i {
		case 0:
			c.Before.Ticket = c.Before.Ticket[:15]
		case 1:
			c.Before.Ticket = append(bytes.Clone(c.Before.Ticket), 0)
		case 2:
			c.Before.Ticket[3] ^= 1
		case 3:
			c.Before.Ticket = make([]byte, 512)
		case 4: // another book
			x.book, x.pages = handshake.NewBook(), map[string]page{}
		}
		s := x.server()
		s.Early = true
		h := x.handshake(c, s)
		if info := h.server.m.Info(); info.Again || info.Early {
			t.Errorf("%d: %v", i, info)
		}
		if !slices.Contains(kinds(h.answer), handshake.Refused) || !slices.Contains(kinds(h.ends), handshake.Refused) || len(messages(h.answer, handshake.Hand)) != 4 {
			t.Errorf("%d: %v, %v", i, kinds(h.answer), kinds(h.ends))
		}
	}
}

// Binders that are none, of a ticket that the book has.
func TestP13_5Binder(t *testing.T) {
	for i := range len(strangers()) + 5 {
		x := newWorld(t)
		c := x.client()
		c.Before = x.handshake(c, x.server()).before(false)
		other := x.fresh()
		a := x.begun(x.server())
		m := a.plays(hello.Client)
		m.Ticket = c.Before.Ticket
		bare, _ := hello.Bare(m)
		early := x.both(func(v *vault.Vault) (vault.Handle, api.Errno) { return secrets.Early(v, c.Before.Secret) })
		bind := func(secret vault.Handle, b []byte) vault.Handle {
			return x.both(func(v *vault.Vault) (vault.Handle, api.Errno) { return secrets.Bind(v, secret, b) })
		}
		whole := x.put(m)
		bad := append(strangers(), x.half, bind(other, bare), bind(early, nil), bind(early, whole), bind(c.Before.Secret, bare))
		m.Binder = bad[i]
		a.refused(handshake.First, x.put(m), 51)
		if a.m.Info() != (handshake.Info{}) {
			t.Errorf("Info = %v", a.m.Info())
		}
		a = x.begun(x.server())
		m.Binder = bind(early, bare)
		a.take(handshake.First, x.put(m))
		if !a.m.Info().Again {
			t.Error("the right one is refused")
		}
	}
}

// A client's message with a bit turned, or with another one's binder, is refused.
func TestP13_5BinderOfAnother(t *testing.T) {
	x := newWorld(t)
	c := x.client()
	c.Before = x.handshake(c, x.server()).before(false)
	one, two := x.read(said(x.side(c).start(), handshake.First)), x.read(said(x.side(c).start(), handshake.First))
	one.Binder = two.Binder
	x.begun(x.server()).refused(handshake.First, x.put(one), 51)
	two.Params[0] ^= 1
	x.begun(x.server()).refused(handshake.First, x.put(two), 51)
	two.Params[0] ^= 1
	two.Early = true
	x.begun(x.server()).refused(handshake.First, x.put(two), 51)
}

// Whether early data are taken: each of the things that it hangs on.
func TestP13_5Early(t *testing.T) {
	for bits := range 32 {
		x := newWorld(t)
		c, s := x.client(), x.server()
		s.Early = bits&1 != 0 // the entry allows them
		c.Before = x.handshake(c, s).before(bits&2 != 0)
		s.Early = bits&4 != 0
		c.Early = bits&8 != 0
		if bits&16 == 0 { // another proto
			s.Protos = []string{"b"}
			c.Before.Proto = "b"
		}
		h := x.handshake(c, s)
		saidSo, taken := bits&10 == 10, bits == 31
		var want []int
		if taken {
			want = []int{handshake.ReadKey, handshake.Taken}
		} else if saidSo {
			want = []int{handshake.Refused}
		}
		want = slices.Concat([]int{handshake.Peer, handshake.Say, handshake.WriteKey, handshake.ReadKey}, want, []int{handshake.Say, handshake.Say, handshake.WriteKey})
		if !slices.Equal(kinds(h.answer), want) || h.server.m.Info().Early != taken || h.client.m.Info().Early != taken || !h.server.m.Info().Again {
			t.Errorf("%05b: %v, %v", bits, kinds(h.answer), h.server.m.Info())
		}
		if x.read(messages(h.answer, handshake.Hand)[0]).Early != taken {
			t.Errorf("%05b: Extensions say otherwise", bits)
		}
		if taken && (h.answer[4].Secret != h.first[1].Secret || h.answer[4].Level != handshake.Early || h.first[1].Level != handshake.Early) {
			t.Errorf("%05b: the sides have other keys of early data", bits)
		}
	}
}

// earlyWorld is a world whose book has a ticket with early data, and both configs for it.
func earlyWorld(t *testing.T) (x *world, c, s handshake.Config) {
	x = newWorld(t)
	c, s = x.client(), x.server()
	c.Early, s.Early = true, true
	c.Before = x.handshake(c, s).before(true)
	return x, c, s
}

// Early data are taken once for a ticket: sent again, by the same message or another one, they are refused; another ticket's are taken.
func TestP13_5EarlyOnce(t *testing.T) {
	x, c, s := earlyWorld(t)
	other := c
	other.Before = x.handshake(handshake.Config{Name: "host", Trusted: x.half, Protos: []string{"a"}}, s).before(true)
	client := x.side(c)
	b := said(client.start(), handshake.First)
	for i := range 4 {
		server := x.begun(s)
		l := server.take(handshake.First, b)
		if info := server.m.Info(); info.Early != (i == 0) || !info.Again || slices.Contains(kinds(l), handshake.Refused) != (i > 0) {
			t.Errorf("%d: %v", i, info)
		}
	}
	if info := x.handshake(c, s).server.m.Info(); info.Early || !info.Again {
		t.Errorf("another message: %v", info)
	}
	if info := x.handshake(other, s).server.m.Info(); !info.Early {
		t.Errorf("another ticket: %v", info)
	}
}

// Early data that were refused, or not said, may come later: they did not come yet.
func TestP13_5EarlyNotYet(t *testing.T) {
	x, c, s := earlyWorld(t)
	not := s
	not.Early = false
	x.handshake(c, not)
	quiet := c
	quiet.Early = false
	x.handshake(quiet, s)
	other := s
	other.Protos = []string{"b"}
	x.handshake(c, other)
	if info := x.handshake(c, s).server.m.Info(); !info.Early {
		t.Errorf("%v", info)
	}
}

// A call that has an error leaves the book as it was: early data are not taken.
func TestP13_5EarlyClosed(t *testing.T) {
	x, c, s := earlyWorld(t)
	b := said(x.side(c).start(), handshake.First)
	x.begun(s).refused(handshake.First, append(bytes.Clone(b), 0), 10)

	m := x.read(b)
	m.Share = x.secret
	bare, _ := hello.Bare(m)
	early := x.both(func(v *vault.Vault) (vault.Handle, api.Errno) { return secrets.Early(v, c.Before.Secret) })
	m.Binder = x.both(func(v *vault.Vault) (vault.Handle, api.Errno) { return secrets.Bind(v, early, bare) })
	x.begun(s).refused(handshake.First, x.put(m), 47)

	m.Binder = x.half
	x.begun(s).refused(handshake.First, x.put(m), 51)
	server := x.begun(s)
	server.take(handshake.First, b)
	if !server.m.Info().Early {
		t.Error("early data came, though no call took them")
	}
}

// Nor is a ticket given by such a call: the book does not have what the call would have said.
func TestP13_5TicketClosed(t *testing.T) {
	x := newWorld(t)
	a := x.at(x.server(), 1)
	a.refused(handshake.Hand, append(a.put(a.plays(hello.Finished)), 0), 10)
	unsaid := x.read(said(a.p.events, handshake.Data))
	c := x.client()
	c.Before = handshake.Before{Ticket: unsaid.Ticket, Secret: x.secret}
	if info := x.handshake(c, x.server()).server.m.Info(); info.Again {
		t.Errorf("%v", info)
	}
}

// Two machines that share a book, and go on by turns.
func TestP13_5SharedBook(t *testing.T) {
	x, c, s := earlyWorld(t)
	one, two := x.begun(s), x.begun(s)
	a, b := x.side(c), x.side(c)
	first, second := said(a.start(), handshake.First), said(b.start(), handshake.First)
	l := two.take(handshake.First, second)
	k := one.take(handshake.First, first)
	if !two.m.Info().Early || one.m.Info().Early || !one.m.Info().Again {
		t.Errorf("%v, %v", one.m.Info(), two.m.Info())
	}
	a.take(handshake.First, said(k, handshake.First))
	b.take(handshake.First, said(l, handshake.First))
	k = a.take(handshake.Hand, said(k, handshake.Hand))
	l = b.take(handshake.Hand, said(l, handshake.Hand))
	k = a.take(handshake.Data, said(one.take(handshake.Hand, said(k, handshake.Hand)), handshake.Data))
	l = b.take(handshake.Data, said(two.take(handshake.Hand, said(l, handshake.Hand)), handshake.Data))
	for _, session := range []handshake.Event{k[0], l[0]} {
		c.Before = handshake.Before{Ticket: session.Bytes, Secret: session.Secret, Proto: "a", Early: true}
		if info := x.handshake(c, s).server.m.Info(); !info.Again || !info.Early {
			t.Errorf("%v", info)
		}
	}
}

// A book's tickets are as good for a server with another config.
func TestP13_5OtherConfig(t *testing.T) {
	x := newWorld(t)
	c, s := x.client(), x.server()
	h := x.handshake(c, s)
	c.Before = h.before(false)
	s.Name, s.Params, s.Protos = "other", nil, []string{"b"}
	c.Name = "other"
	if info := x.handshake(c, s).server.m.Info(); !info.Again || info.Proto != "b" {
		t.Errorf("%v", info)
	}
	if len(x.pages) != 2 {
		t.Errorf("the book has %d tickets", len(x.pages))
	}
}

// A book that another vault's machines wrote: what was agreed there is no term here, so no binder is its.
func TestP13_5OtherVault(t *testing.T) {
	x := newWorld(t)
	far := newWorld(t)
	far.book = x.book
	for range 500 {
		far.fresh()
	}
	ticket := far.handshake(far.client(), far.server()).at[0]
	if x.v.Known(ticket.Secret) {
		t.Fatal("it is a term here, too")
	}
	client := x.side(x.server()).plays(hello.Client)
	client.Ticket, client.Binder = ticket.Bytes, x.half
	m := must(t, x.v, x.server(), x.book)
	m.Start()
	_, err := m.Take(handshake.First, x.put(client))
	if c, ok := err.(*api.Close); !ok || *c != (api.Close{Code: api.Crypto + 51, Err: api.ErrAlert}) {
		t.Errorf("%v", err)
	}
}

// The first secret of nothing is made ahead of the entry's, with a ticket too: to be seen in a vault where nobody made it before.
func TestP13_5FirstSecrets(t *testing.T) {
	far := newWorld(t)
	ticket := far.handshake(far.client(), far.server()).at[0]
	x := newWorld(t)
	x.book, x.pages = far.book, far.pages
	for !x.v.Known(ticket.Secret) {
		x.fresh()
	}
	c := x.client()
	c.Before = handshake.Before{Ticket: ticket.Bytes, Secret: ticket.Secret, Proto: "a"}
	if info := x.handshake(c, x.server()).server.m.Info(); !info.Again {
		t.Errorf("%v", info)
	}
}
