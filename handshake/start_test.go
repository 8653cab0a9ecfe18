package handshake_test

import (
	"slices"
	"testing"

	"caravel/api"
	"caravel/handshake"
	"caravel/hello"
	"caravel/secrets"
	"caravel/vault"
)

// must is a machine that New makes.
func must(t *testing.T, v *vault.Vault, c handshake.Config, b *handshake.Book) *handshake.Machine {
	t.Helper()
	m, e := handshake.New(v, c, b)
	if e != api.OK {
		t.Fatalf("New: %d", int(e))
	}
	return m
}

// term tells a term that must be there.
func term(t *testing.T) func(h vault.Handle, e api.Errno) vault.Handle {
	return func(h vault.Handle, e api.Errno) vault.Handle {
		t.Helper()
		if e != api.OK || h == (vault.Handle{}) {
			t.Fatalf("no term: %x, %d", h, int(e))
		}
		return h
	}
}

// count asks that a vault has so many terms, and makes one more.
func count(t *testing.T, v *vault.Vault, want int) {
	t.Helper()
	if v.Fresh() != name(want) {
		t.Fatalf("there are not %d terms", want)
	}
}

// A client's first message, written out: the terms by their numbers.
func TestP13_2Client(t *testing.T) {
	v := vault.New()
	m := must(t, v, handshake.Config{Name: "host", Trusted: v.Root(), Protos: []string{"b", "a"}, Params: []byte("p")}, nil)
	l, err := m.Start()
	// 1: the script's beginning, 2: the random term, 3: the secret, 4: its half, 5: the script.
	want, _ := hello.Put(hello.Message{Kind: hello.Client, Random: name(2), Share: name(4), Name: "host", Protos: []string{"b", "a"}, Params: []byte("p")})
	if err != nil || !sameEvents(l, []handshake.Event{{Kind: handshake.Say, Level: handshake.First, Bytes: want}}) {
		t.Fatalf("Start = %v, %v", l, err)
	}
	is := term(t)
	if is(secrets.Begin(v)) != name(1) || is(v.Public(name(3))) != name(4) || is(secrets.Add(v, name(1), want)) != name(5) {
		t.Error("the terms are not in the chapter's order")
	}
	count(t, v, 6)
}

// With a ticket and early data, written out.
func TestP13_2ClientEarly(t *testing.T) {
	v := vault.New()
	before := handshake.Before{Ticket: []byte("ticket"), Secret: v.Fresh(), Proto: "b", Early: true}
	m := must(t, v, handshake.Config{Trusted: v.Root(), Protos: []string{"a"}, Before: before, Early: true}, nil)
	l, err := m.Start()
	// 2: the script's beginning, 3: random, 4: the secret, 5: its half, 6: the first secret, 7 and 8: the binder, 9: the script, 10: the traffic.
	message := hello.Message{Kind: hello.Client, Random: name(3), Share: name(5), Protos: []string{"a"}, Ticket: []byte("ticket"), Early: true, Binder: name(8)}
	want, _ := hello.Put(message)
	if err != nil || !sameEvents(l, []handshake.Event{{Kind: handshake.Say, Bytes: want}, {Kind: handshake.WriteKey, Level: handshake.Early, Secret: name(10)}}) {
		t.Fatalf("Start = %v, %v", l, err)
	}
	is := term(t)
	bare, _ := hello.Bare(message)
	if is(secrets.Early(v, before.Secret)) != name(6) || is(secrets.Bind(v, name(6), bare)) != name(8) {
		t.Error("the binder is not made so")
	}
	if is(secrets.Add(v, name(2), want)) != name(9) || is(secrets.Traffic(v, name(6), secrets.EarlyTraffic, name(9))) != name(10) {
		t.Error("early data's traffic is not made so")
	}
	count(t, v, 11)
}

// Early data are said if there is a ticket, and both the config and what was agreed before have them.
func TestP13_2WhenEarly(t *testing.T) {
	for bits := range 8 {
		x := newWorld(t)
		c := x.client()
		c.Early = bits&1 != 0
		c.Before = handshake.Before{Secret: x.secret, Early: bits&2 != 0, Proto: "a"}
		if bits&4 != 0 {
			c.Before.Ticket = []byte("ticket")
		}
		l := x.side(c).start()
		m := x.read(l[0].Bytes)
		if m.Early != (bits == 7) || len(l) == 2 != (bits == 7) {
			t.Errorf("%03b: Early is %v, and there are %d events", bits, m.Early, len(l))
		}
		if string(m.Ticket) != string(c.Before.Ticket) || (m.Binder == vault.Handle{}) != (bits < 4) {
			t.Errorf("%03b: the ticket is %q, the binder %x", bits, m.Ticket, m.Binder)
		}
	}
}

// Each thing that a client says is as its config has it.
func TestP13_2Config(t *testing.T) {
	x := newWorld(t)
	for _, change := range may() {
		c := x.client()
		change.with(&c)
		m := x.read(x.side(c).start()[0].Bytes)
		if m.Name != c.Name || !slices.Equal(m.Protos, c.Protos) || string(m.Params) != string(c.Params) {
			t.Errorf("%s: it says %v", change.what, m)
		}
	}
}

// Clients of one config say other random terms and shares.
func TestP13_2Fresh(t *testing.T) {
	x := newWorld(t)
	seen := map[vault.Handle]int{}
	for i := range 5 {
		m := x.read(x.side(x.client()).start()[0].Bytes)
		for _, h := range []vault.Handle{m.Random, m.Share} {
			if j, ok := seen[h]; ok {
				t.Errorf("%d and %d both say %x", j, i, h)
			}
			seen[h] = i
		}
	}
}

// A server's tells nothing, and makes the script's beginning.
func TestP13_2Server(t *testing.T) {
	v := vault.New()
	m := must(t, v, handshake.Config{Server: true, Secret: v.Root(), Protos: []string{"a"}}, handshake.NewBook())
	if l, err := m.Start(); len(l) != 0 || err != nil {
		t.Fatalf("Start = %v, %v", l, err)
	}
	if term(t)(secrets.Begin(v)) != name(1) {
		t.Error("the script's beginning is another term")
	}
	count(t, v, 2)
}

// Start again: at every step of both sides.
func TestP13_2Again(t *testing.T) {
	x := newWorld(t)
	again := func(a pair) {
		t.Helper()
		for range 2 {
			if l, err := a.m.Start(); len(l) != 0 || err != error(api.ErrState) {
				t.Errorf("Start again = %v, %v", l, err)
			}
			a.start()
		}
	}
	client, server := x.side(x.client()), x.side(x.server())
	first := client.start()
	again(client)
	server.start()
	again(server)
	answer := server.take(handshake.First, said(first, handshake.First))
	again(server)
	client.take(handshake.First, said(answer, handshake.First))
	again(client)
	for _, b := range messages(answer, handshake.Hand) {
		first = client.take(handshake.Hand, b)
		again(client)
	}
	last := server.take(handshake.Hand, said(first, handshake.Hand))
	again(server)
	client.take(handshake.Data, said(last, handshake.Data))
	again(client)
	if !client.m.Info().Done || !server.m.Info().Done {
		t.Error("Start again changed something")
	}
}

// Take ahead of Start does nothing: the machine goes on as if it had not been called.
func TestP13_2TakeAhead(t *testing.T) {
	x := newWorld(t)
	client, server := x.side(x.client()), x.side(x.server())
	for _, a := range []pair{client, server} {
		for _, level := range []int{handshake.First, handshake.Hand, handshake.Data, handshake.Early, -1, 4} {
			for _, b := range [][]byte{nil, {1}, make([]byte, 65537)} {
				if l, err := a.m.Take(level, b); len(l) != 0 || err != error(api.ErrState) {
					t.Errorf("Take ahead of Start = %v, %v", l, err)
				}
				a.take(level, b)
			}
		}
	}
	first := client.start()
	server.take(handshake.First, said(first, handshake.First))
	server.start()
	server.take(handshake.First, said(first, handshake.First))
	if server.m.Info().Proto != "a" {
		t.Error("the server did not go on")
	}
}

// A machine that is nil, or that no call made.
func TestP13_2None(t *testing.T) {
	for _, m := range []*handshake.Machine{nil, {}} {
		for range 2 {
			if l, err := m.Start(); len(l) != 0 || err != error(api.ErrNil) {
				t.Errorf("Start = %v, %v", l, err)
			}
			for level := -1; level <= 4; level++ {
				if l, err := m.Take(level, []byte{1}); len(l) != 0 || err != error(api.ErrNil) {
					t.Errorf("Take = %v, %v", l, err)
				}
			}
			if m.Info() != (handshake.Info{}) {
				t.Errorf("Info = %v", m.Info())
			}
		}
	}
}
