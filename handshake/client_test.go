package handshake_test

import (
	"slices"
	"testing"

	"caravel/api"
	"caravel/handshake"
	"caravel/hello"
	"caravel/vault"
)

// changed is an honest message with something else in it.
func (a pair) changed(with func(m *hello.Message)) []byte {
	a.t.Helper()
	m := a.plays(a.p.expected().kind)
	with(&m)
	return a.put(m)
}

// A ticket that was not said.
func TestP13_4AgainWithoutTicket(t *testing.T) {
	x := newWorld(t)
	c := x.client()
	c.Before = handshake.Before{Secret: x.secret, Proto: "a", Early: true}
	a := x.begun(c)
	a.refused(handshake.First, a.changed(func(m *hello.Message) { m.Again = true }), 47)
	if a.m.Info() != (handshake.Info{}) {
		t.Errorf("Info = %v", a.m.Info())
	}
}

// Shares that are no public half: of Again or not, the terms ahead of it are made.
func TestP13_4Share(t *testing.T) {
	for _, again := range []bool{false, true} {
		for i := range len(strangers()) + 3 {
			x := newWorld(t)
			bad := append(strangers(), x.v.Root(), x.secret, x.sign(x.secret, x.half))[i]
			c := x.client()
			if again {
				c = x.resumed()
			}
			a := x.begun(c)
			a.refused(handshake.First, a.changed(func(m *hello.Message) { m.Share = bad }), 47)
			if a.m.Info() != (handshake.Info{}) {
				t.Errorf("Info = %v", a.m.Info())
			}
		}
	}
}

// Any public half will do: the client's own, and the one that it trusts.
func TestP13_4AnyShare(t *testing.T) {
	x := newWorld(t)
	a := x.side(x.client())
	own := x.read(a.start()[0].Bytes).Share
	a.take(handshake.First, a.changed(func(m *hello.Message) { m.Share = own }))
	b := x.begun(x.client())
	b.take(handshake.First, b.changed(func(m *hello.Message) { m.Share = x.half }))
	if a.p.closed != nil || b.p.closed != nil {
		t.Error("a public half is refused")
	}
	a.goes(4)
	b.goes(4)
}

// Keys at Hand: what is read by, then what is written by.
func TestP13_4Server(t *testing.T) {
	x := newWorld(t)
	for _, c := range []handshake.Config{x.client(), x.resumed()} {
		l := x.begun(c).goes(1)
		want := []handshake.Event{{Kind: handshake.ReadKey, Level: handshake.Hand, Secret: l[0].Secret}, {Kind: handshake.WriteKey, Level: handshake.Hand, Secret: l[1].Secret}}
		if !sameEvents(l, want) || l[0].Secret == l[1].Secret {
			t.Errorf("%v", l)
		}
	}
}

// A server that does not go along with the ticket: the first secret is that of nothing, and it shows who it is.
func TestP13_4NotAgain(t *testing.T) {
	x := newWorld(t)
	a := x.begun(x.resumed())
	a.take(handshake.First, a.changed(func(m *hello.Message) { m.Again = false }))
	l := a.take(handshake.Hand, a.changed(func(m *hello.Message) { m.Early = false }))
	if !slices.Equal(kinds(l), []int{handshake.Peer, handshake.Refused}) {
		t.Errorf("%v", kinds(l))
	}
	if next := a.p.expected(); next.kind != hello.Identity {
		t.Fatalf("the next is %d", next.kind)
	}
	a.goes(3)
	if info := a.m.Info(); !info.Done || info.Again || info.Early {
		t.Errorf("Info = %v", info)
	}
}

// Protos: each that was said may be told, no other one.
func TestP13_4Proto(t *testing.T) {
	for _, early := range []bool{false, true} {
		for _, proto := range []string{"a", "b", "", "c", "A", "aa", "b\x00", "host", text(255)} {
			if proto == "" {
				continue
			}
			x := newWorld(t)
			a := x.at(x.client(), 1)
			b := a.changed(func(m *hello.Message) { m.Protos, m.Early = []string{proto}, early })
			known := proto == "a" || proto == "b"
			switch {
			case !known:
				a.refused(handshake.Hand, b, 120)
			case early:
				a.refused(handshake.Hand, b, 47)
			default:
				a.take(handshake.Hand, b)
			}
			told := ""
			if known && !early {
				told = proto
			}
			if a.m.Info().Proto != told {
				t.Errorf("%q: Info = %v", proto, a.m.Info())
			}
		}
	}
}

// Early data that may not be taken.
func TestP13_4EarlyIllegal(t *testing.T) {
	for _, change := range []change{
		{"not said: the config", func(c *handshake.Config) { c.Early = false }},
		{"not said: what was agreed before", func(c *handshake.Config) { c.Before.Early = false }},
		{"another proto", func(c *handshake.Config) { c.Before.Proto = "b" }},
		{"no proto", func(c *handshake.Config) { c.Before.Proto = "" }},
	} {
		for _, early := range []bool{false, true} {
			x := newWorld(t)
			c := x.resumed()
			change.with(&c)
			a := x.at(c, 1)
			b := a.changed(func(m *hello.Message) { m.Early = early })
			if early {
				a.refused(handshake.Hand, b, 47)
				continue
			}
			a.take(handshake.Hand, b)
			a.goes(1)
			if !a.m.Info().Done || a.m.Info().Early {
				t.Errorf("%s: %v", change.what, a.m.Info())
			}
		}
	}
	x := newWorld(t) // without Again
	a := x.begun(x.resumed())
	a.take(handshake.First, a.changed(func(m *hello.Message) { m.Again = false }))
	a.refused(handshake.Hand, a.changed(func(m *hello.Message) { m.Early = true }), 47)
}

// Early data that were said are taken or refused; of others nothing is told.
func TestP13_4Early(t *testing.T) {
	for _, taken := range []bool{false, true} {
		x := newWorld(t)
		a := x.at(x.resumed(), 1)
		l := a.take(handshake.Hand, a.changed(func(m *hello.Message) { m.Early = taken }))
		want := []int{handshake.Peer, handshake.Refused}
		if taken {
			want[1] = handshake.Taken
		}
		if !slices.Equal(kinds(l), want) || string(l[0].Bytes) != "server's" || a.m.Info().Early != taken {
			t.Errorf("%v, %v", l, a.m.Info())
		}
		a.goes(1)
		if a.m.Info().Early != taken || !a.m.Info().Done {
			t.Errorf("%v", a.m.Info())
		}
	}
	x := newWorld(t)
	if l := x.begun(x.client()).goes(2); !slices.Equal(kinds(l), []int{handshake.Peer}) {
		t.Errorf("%v", kinds(l))
	}
}

// Who it is: another name, another half.
func TestP13_4Identity(t *testing.T) {
	for _, other := range []string{"", "hos", "host\x00", "Host", "other", text(255)} {
		x := newWorld(t)
		a := x.at(x.client(), 2)
		a.refused(handshake.Hand, a.changed(func(m *hello.Message) { m.Name = other }), 112)
		a = x.at(x.client(), 2)
		a.refused(handshake.Hand, a.changed(func(m *hello.Message) { m.Name, m.Mark = other, x.secret }), 112)
	}
	for i := range len(strangers()) + 3 {
		x := newWorld(t)
		bad := append(strangers(), x.v.Root(), x.secret, x.share())[i]
		a := x.at(x.client(), 2)
		a.refused(handshake.Hand, a.changed(func(m *hello.Message) { m.Mark = bad }), 42)
	}
}

// The proof: of another secret, another script, or none.
func TestP13_4Proof(t *testing.T) {
	for i := range len(strangers()) + 7 {
		x := newWorld(t)
		other := x.fresh()
		a := x.at(x.client(), 3)
		script := a.p.script
		nothing := x.both(func(v *vault.Vault) (vault.Handle, api.Errno) { return v.Sign(x.secret, nil) })
		more := x.both(func(v *vault.Vault) (vault.Handle, api.Errno) { return v.Sign(x.secret, append(script[:], 0)) })
		bad := append(strangers(), x.secret, x.half, script, nothing, more, x.sign(other, script), x.sign(x.secret, x.secret))[i]
		a.refused(handshake.Hand, a.changed(func(m *hello.Message) { m.Mark = bad }), 51)
	}
}

// A proof of another handshake of the same server, or of this one's script with a message less.
func TestP13_4ProofOfAnother(t *testing.T) {
	x := newWorld(t)
	old := x.at(x.client(), 3)
	proof := old.put(old.plays(hello.Proof))
	a := x.at(x.client(), 3)
	a.refused(handshake.Hand, proof, 51)

	a = x.at(x.client(), 2)
	less := x.sign(x.secret, a.p.script)
	a.goes(1)
	a.refused(handshake.Hand, a.put(hello.Message{Kind: hello.Proof, Mark: less}), 51)
}

// Trusted may be a term that is no public half: then no proof is one.
func TestP13_4TrustedNoHalf(t *testing.T) {
	x := newWorld(t)
	c := x.client()
	c.Trusted = x.secret
	a := x.at(c, 2)
	a.take(handshake.Hand, a.put(hello.Message{Kind: hello.Identity, Name: "host", Mark: x.secret}))
	a.refused(handshake.Hand, a.put(hello.Message{Kind: hello.Proof, Mark: x.sign(x.secret, a.p.script)}), 51)
}

// The server's mark: another one, the client's own, that of another script.
func TestP13_4Finished(t *testing.T) {
	for i := range len(strangers()) + 3 {
		for _, steps := range []int{4, 2} { // without a ticket, with one
			x := newWorld(t)
			c := x.client()
			if steps == 2 {
				c = x.resumed()
			}
			a := x.at(c, steps-1)
			before := a.honestMark(a.p.serverHand)
			a.goes(1)
			bad := append(strangers(), before, a.honestMark(a.p.clientHand), a.p.serverHand)[i]
			a.refused(handshake.Hand, a.changed(func(m *hello.Message) { m.Mark = bad }), 51)
			if a.m.Info().Done {
				t.Error("it is done")
			}
		}
	}
}

// honestMark is a mark of the script so far, made in both vaults.
func (a pair) honestMark(traffic vault.Handle) vault.Handle {
	a.t.Helper()
	h := a.p.mark(traffic)
	for _, term := range a.log {
		term.again(a.v)
	}
	a.alike()
	return h
}

// The handshake's end: keys, then what is said, then that it is complete.
func TestP13_4End(t *testing.T) {
	x := newWorld(t)
	for _, c := range []handshake.Config{x.client(), x.resumed()} {
		a := x.begun(c)
		l := a.goes(len(a.p.places()) - btoi(len(c.Before.Ticket) > 0)*2)
		if !slices.Equal(kinds(l), []int{handshake.WriteKey, handshake.ReadKey, handshake.Say, handshake.Complete}) {
			t.Fatalf("%v", kinds(l))
		}
		info := a.m.Info()
		if l[0].Secret != info.Client || l[1].Secret != info.Server || l[0].Level != handshake.Data || l[1].Level != handshake.Data || l[2].Level != handshake.Hand {
			t.Errorf("%v, %v", l, info)
		}
		if x.read(l[2].Bytes).Kind != hello.Finished {
			t.Errorf("it says %x", l[2].Bytes)
		}
	}
}

// Tickets behind the end: any number, one by one and at once; the same one again tells the same.
func TestP13_4Tickets(t *testing.T) {
	x := newWorld(t)
	for _, c := range []handshake.Config{x.client(), x.resumed()} {
		a := x.begun(c)
		for !a.m.Info().Done {
			a.goes(1)
		}
		seen := map[vault.Handle]string{}
		for i := range 600 {
			ticket := []byte{byte(i), byte(i >> 8)}[:1+i>>8&1]
			l := a.take(handshake.Data, a.put(hello.Message{Kind: hello.Ticket, Life: i, Ticket: ticket, Early: i%3 == 0}))
			if len(l) != 1 || l[0].Kind != handshake.Session || l[0].Level != 0 || string(l[0].Bytes) != string(ticket) {
				t.Fatalf("%v", l)
			}
			if old, ok := seen[l[0].Secret]; ok && old != string(ticket) {
				t.Fatalf("%q and %q have one secret", old, ticket)
			}
			seen[l[0].Secret] = string(ticket)
		}
		one := a.put(hello.Message{Kind: hello.Ticket, Ticket: []byte("t")})
		long := a.put(hello.Message{Kind: hello.Ticket, Life: 1<<32 - 1, Ticket: make([]byte, 512)})
		l := a.take(handshake.Data, slices.Concat(one, long, one, one[:5]))
		if len(l) != 3 || l[0].Secret != l[2].Secret || l[0].Secret == l[1].Secret {
			t.Fatalf("%v", l)
		}
		if l = a.take(handshake.Data, one[5:]); len(l) != 1 {
			t.Fatalf("%v", l)
		}
		before := a.m.Info()
		a.refused(handshake.Data, slices.Concat(one, a.put(hello.Message{Kind: hello.Finished})), 10)
		if a.m.Info() != before || !before.Done {
			t.Error("Info changed")
		}
	}
}
