package handshake_test

import (
	"bytes"
	"slices"
	"testing"

	"caravel/api"
	"caravel/handshake"
	"caravel/hello"
	"caravel/vault"
)

// spoil changes bytes, and what lies behind them.
func spoil(b []byte) {
	b = b[:cap(b)]
	for i := range b {
		b[i] ^= 0xff
	}
}

// roomy is bytes with something in their spare room.
func roomy(b []byte) []byte {
	return append(bytes.Clone(b), "spare room"...)[:len(b)]
}

// What is handed in may be changed behind the call: configs behind New, bytes behind Take, whole messages and pieces; what is handed out, too.
func TestMemorySpoilt(t *testing.T) {
	for _, size := range []int{1, 7, 50, 1 << 16} {
		want := rawTalk(t, 1<<16)
		got := spoiltTalk(t, size)
		if !sameEvents(got, want) {
			t.Fatalf("pieces of %d: %v, not %v", size, kinds(got), kinds(want))
		}
	}
}

// spoiltTalk goes as rawTalk does, but each thing that went in or out is spoilt as soon as it was used.
func spoiltTalk(t *testing.T, size int) (all []handshake.Event) {
	v, book := vault.New(), handshake.NewBook()
	secret := v.Fresh()
	half := term(t)(v.Public(secret))
	var before handshake.Before
	for range 3 {
		c := handshake.Config{Name: "host", Trusted: half, Protos: []string{"b", "a"}, Params: []byte("client's"), Early: true, Before: before}
		s := handshake.Config{Server: true, Name: "host", Secret: secret, Protos: []string{"a"}, Params: []byte("server's"), Life: 7, Early: true}
		client, server := must(t, v, c, nil), must(t, v, s, book)
		for _, config := range []handshake.Config{c, s} {
			config.Protos[0] = "spoilt"
			config.Protos[len(config.Protos)-1] = "spoilt"
			spoil(config.Params)
			spoil(config.Before.Ticket)
		}
		keep := func(l []handshake.Event) []handshake.Event {
			mine := slices.Clone(l)
			for i := range mine {
				mine[i].Bytes = bytes.Clone(l[i].Bytes)
			}
			for i := range l {
				spoil(l[i].Bytes)
				l[i] = handshake.Event{Kind: 99}
			}
			all = append(all, mine...)
			return mine
		}
		give := func(m *handshake.Machine, level int, b []byte) (mine []handshake.Event) {
			t.Helper()
			for piece := range slices.Chunk(b, size) {
				piece = roomy(piece)
				l, err := m.Take(level, piece)
				spoil(piece)
				if err != nil {
					t.Fatal(err)
				}
				mine = append(mine, keep(l)...)
			}
			return mine
		}
		l, _ := client.Start()
		first := keep(l)
		server.Start()
		answer := give(server, handshake.First, said(first, handshake.First))
		give(client, handshake.First, said(answer, handshake.First))
		ends := give(client, handshake.Hand, said(answer, handshake.Hand))
		session := give(client, handshake.Data, said(give(server, handshake.Hand, said(ends, handshake.Hand)), handshake.Data))
		before = handshake.Before{Ticket: roomy(session[0].Bytes), Secret: session[0].Secret, Proto: "a", Early: true}
	}
	return append(all, handshake.Event{Secret: v.Fresh()})
}

// What is handed in is not changed, its spare room neither.
func TestMemoryNotChanged(t *testing.T) {
	x, c, s := earlyWorld(t)
	for _, config := range []handshake.Config{c, s} {
		list := append(slices.Clone(config.Protos), "spare", "room")
		params, ticket := roomy(config.Params), roomy(config.Before.Ticket)
		config.Protos, config.Params, config.Before.Ticket = list[:len(config.Protos)], params, ticket
		want := slices.Clone(list)
		wantParams, wantTicket := bytes.Clone(params[:cap(params)]), bytes.Clone(ticket[:cap(ticket)])
		x.side(config).start()
		if !slices.Equal(list, want) || !bytes.Equal(params[:cap(params)], wantParams) || !bytes.Equal(ticket[:cap(ticket)], wantTicket) {
			t.Error("a config was changed")
		}
	}
	client, server := x.side(c), x.begun(s)
	give := func(a pair, level int, b []byte) []handshake.Event {
		b = roomy(b)
		want := bytes.Clone(b[:cap(b)])
		l := a.take(level, b[:1])
		l = append(l, a.take(level, b[1:])...)
		if !bytes.Equal(b[:cap(b)], want) {
			t.Error("bytes were changed")
		}
		return l
	}
	answer := give(server, handshake.First, said(client.start(), handshake.First))
	give(client, handshake.First, said(answer, handshake.First))
	last := give(server, handshake.Hand, said(give(client, handshake.Hand, said(answer, handshake.Hand)), handshake.Hand))
	give(client, handshake.Data, said(last, handshake.Data))
}

// What lies behind the length is not read.
func TestMemoryBehindTheLength(t *testing.T) {
	x := newWorld(t)
	client, server := x.side(x.client()), x.begun(x.server())
	b := said(client.start(), handshake.First)
	if l := server.take(handshake.First, b[:len(b)-1]); len(l) != 0 {
		t.Error("what lies behind is read")
	}
	if l := server.take(handshake.First, b[len(b)-1:]); len(l) != 9 {
		t.Errorf("%v", kinds(l))
	}
}

// Each list that is handed out is of its own memory, spare room too: to write to one changes no other.
func TestMemoryApart(t *testing.T) {
	x := newWorld(t)
	client, server := must(t, x.v, x.client(), nil), must(t, x.v, x.server(), x.book)
	first, _ := client.Start()
	server.Start()
	b := bytes.Clone(first[0].Bytes)
	l, err := server.Take(handshake.First, b)
	if err != nil {
		t.Fatal(err)
	}
	for i := range l {
		before := make([][]byte, len(l))
		for j := range l {
			before[j] = bytes.Clone(l[j].Bytes)
		}
		given := bytes.Clone(b)
		spoil(l[i].Bytes)
		for j := range l {
			if j != i && !bytes.Equal(l[j].Bytes, before[j]) {
				t.Errorf("%d and %d share memory", i, j)
			}
		}
		if !bytes.Equal(b, given) {
			t.Errorf("%d shares memory with what was handed in", i)
		}
	}
}

// A machine whose vault or book is no longer one that a call made is none.
func TestMemoryGone(t *testing.T) {
	v, book := vault.New(), handshake.NewBook()
	server := must(t, v, handshake.Config{Server: true, Secret: v.Root()}, book)
	client := must(t, v, handshake.Config{Trusted: v.Root(), Protos: []string{"a"}}, nil)
	client.Start()
	server.Start()
	gone := func(m *handshake.Machine) {
		t.Helper()
		if l, err := m.Start(); len(l) != 0 || err != error(api.ErrNil) {
			t.Errorf("Start = %v, %v", l, err)
		}
		if l, err := m.Take(handshake.First, []byte{1}); len(l) != 0 || err != error(api.ErrNil) {
			t.Errorf("Take = %v, %v", l, err)
		}
	}
	*book = handshake.Book{}
	gone(server)
	*v = vault.Vault{}
	gone(client)
}

// A vault that forgot its terms: what a machine has is no term's name any more, so nothing is told, and nothing changes.
func TestMemoryForgotten(t *testing.T) {
	x := newWorld(t)
	client := x.side(x.server()).plays(hello.Client)
	server := must(t, x.v, x.server(), x.book)
	server.Start()
	*x.v = *vault.New()
	for x.v.Fresh() != client.Share { // the share is a term's name again, but no public half
	}
	for range 2 {
		l, err := server.Take(handshake.First, x.put(client))
		if len(l) != 0 || err == nil || server.Info() != (handshake.Info{}) {
			t.Errorf("%v, %v, %v", l, err, server.Info())
		}
	}

	v := vault.New()
	var last vault.Handle
	for range 50 {
		last = v.Fresh()
	}
	m := must(t, v, handshake.Config{Trusted: last, Protos: []string{"a"}, Before: handshake.Before{Ticket: []byte{1}, Secret: last}}, nil)
	*v = *vault.New()
	for range 2 {
		if l, err := m.Start(); len(l) != 0 || err != error(api.ErrNone) {
			t.Errorf("Start = %v, %v", l, err)
		}
	}
	for range 50 {
		v.Fresh()
	}
	if l, err := m.Start(); len(l) != 1 || err != nil {
		t.Errorf("Start = %v, %v", l, err)
	}
}
