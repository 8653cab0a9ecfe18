package handshake_test

import (
	"math"
	"slices"
	"testing"

	"caravel/api"
	"caravel/handshake"
	"caravel/hello"
	"caravel/vault"
)

// rawTalk is a whole handshake of two machines, and one behind it by its ticket with early data; what is said goes in pieces of a size. It tells all events in their order.
func rawTalk(t *testing.T, size int) (all []handshake.Event) {
	v, book := vault.New(), handshake.NewBook()
	secret := v.Fresh()
	half := term(t)(v.Public(secret))
	c := handshake.Config{Name: "host", Trusted: half, Protos: []string{"b", "a"}, Params: []byte("client's"), Early: true}
	s := handshake.Config{Server: true, Name: "host", Secret: secret, Protos: []string{"a"}, Params: []byte("server's"), Life: 7, Early: true}
	for range 3 {
		client, server := must(t, v, c, nil), must(t, v, s, book)
		give := func(m *handshake.Machine, level int, b []byte) (l []handshake.Event) {
			t.Helper()
			for piece := range slices.Chunk(b, size) {
				more, err := m.Take(level, piece)
				if err != nil {
					t.Fatalf("pieces of %d: %v", size, err)
				}
				l = append(l, more...)
			}
			all = append(all, l...)
			return l
		}
		first, _ := client.Start()
		server.Start()
		all = append(all, first...)
		answer := give(server, handshake.First, said(first, handshake.First))
		give(client, handshake.First, said(answer, handshake.First))
		ends := give(client, handshake.Hand, said(answer, handshake.Hand))
		last := give(server, handshake.Hand, said(ends, handshake.Hand))
		session := give(client, handshake.Data, said(last, handshake.Data))
		if !client.Info().Done || client.Info() != server.Info() || len(session) != 1 {
			t.Fatalf("pieces of %d: %v, %v", size, client.Info(), server.Info())
		}
		c.Before = handshake.Before{Ticket: session[0].Bytes, Secret: session[0].Secret, Proto: "a", Early: true}
	}
	return append(all, handshake.Event{Secret: v.Fresh()})
}

// The same bytes in pieces of any size bring the same events, and make the same terms.
func TestP13_3Pieces(t *testing.T) {
	whole := rawTalk(t, 1<<16)
	for size := 1; size < 300; size++ {
		if l := rawTalk(t, size); !sameEvents(l, whole) {
			t.Fatalf("pieces of %d bring other events: %v", size, kinds(l))
		}
	}
}

// Whole messages behind one another, cut in two at every place.
func TestP13_3CutInTwo(t *testing.T) {
	for at := 0; ; at++ {
		x := newWorld(t)
		client, server := x.side(x.client()), x.begun(x.server())
		answer := server.take(handshake.First, said(client.start(), handshake.First))
		client.take(handshake.First, said(answer, handshake.First))
		b := said(answer, handshake.Hand)
		if at > len(b) {
			return
		}
		one, two := client.take(handshake.Hand, b[:at]), client.take(handshake.Hand, b[at:])
		want := []int{handshake.Peer, handshake.WriteKey, handshake.ReadKey, handshake.Say, handshake.Complete}
		if got := append(kinds(one), kinds(two)...); !slices.Equal(got, want) {
			t.Fatalf("cut at %d: %v", at, got)
		}
	}
}

// No byte brings nothing, at whatever level and step, with bytes that wait too.
func TestP13_3NoByte(t *testing.T) {
	for _, w := range everywhere() {
		x := newWorld(t)
		a := w.make(x)
		nothing := func() {
			t.Helper()
			for _, level := range []int{handshake.First, handshake.Hand, handshake.Data} {
				for _, b := range [][]byte{nil, {}} {
					if l, err := a.m.Take(level, b); len(l) != 0 || err != nil {
						t.Fatalf("%s: no byte at %d: %v, %v", w.what, level, l, err)
					}
					a.take(level, b)
				}
			}
		}
		nothing()
		next := a.p.expected()
		if next.level < 0 {
			continue
		}
		b := a.honest(next.kind)
		for _, piece := range [][]byte{b[:1], b[1:4], b[4 : len(b)-1]} {
			a.take(next.level, piece)
			nothing()
		}
		if a.take(next.level, b[len(b)-1:]); len(a.p.rest[next.level]) != 0 {
			t.Fatalf("%s: it did not go on", w.what)
		}
	}
}

// Levels that there are not: nothing is done, and the machine goes on; of a closed one its error comes first.
func TestP13_3Levels(t *testing.T) {
	wrong := []int{handshake.Early, -1, 4, 5, math.MinInt, math.MaxInt}
	for _, w := range everywhere() {
		x := newWorld(t)
		a := w.make(x)
		next := a.p.expected()
		for _, level := range wrong {
			for _, b := range [][]byte{nil, {1}, a.honest(hello.Server), make([]byte, 65537)} {
				if l, err := a.m.Take(level, b); len(l) != 0 || err != error(api.ErrArg) {
					t.Fatalf("%s: level %d: %v, %v", w.what, level, l, err)
				}
				a.p.take(level, b)
			}
		}
		x.alike()
		if next.level >= 0 {
			a.goes(1)
		}
		a.refused(handshake.First, []byte{1, 2, 3, 4}, 10+40*btoi(a.p.expected().level == handshake.First))
		for _, level := range wrong {
			a.take(level, nil)
		}
	}
}

func btoi(b bool) int {
	if b {
		return 1
	}
	return 0
}

// Bytes of a level at which nothing is expected, whatever they are.
func TestP13_3OtherLevels(t *testing.T) {
	for _, w := range everywhere() {
		for _, level := range []int{handshake.First, handshake.Hand, handshake.Data} {
			for i := range 5 {
				x := newWorld(t)
				a := w.make(x)
				next := a.p.expected()
				if next.level == level {
					continue
				}
				bytes := [][]byte{{0}, {1}, a.honest(hello.Ticket), make([]byte, 65536), {255, 0, 0, 0}}
				a.refused(level, bytes[i], 10)
			}
		}
	}
}

// Messages of another kind than the expected one.
func TestP13_3OtherKinds(t *testing.T) {
	for _, w := range everywhere() {
		for _, kind := range allKinds() {
			x := newWorld(t)
			a := w.make(x)
			next := a.p.expected()
			if next.kind == kind || next.level < 0 {
				continue
			}
			b := a.honest(kind)
			if l := a.take(next.level, b[:len(b)-1]); len(l) != 0 { // not whole: nothing is known of it
				t.Fatalf("%s: %v", w.what, l)
			}
			a.refused(next.level, b[len(b)-1:], 10)
		}
	}
}

// Bytes that are no message: of no kind, or not formed so; whichever kind is expected.
func TestP13_3NoMessage(t *testing.T) {
	bad := [][]byte{{0, 0, 0, 0}, {7, 0, 0, 0}, {255, 0, 0, 1, 9}, {3, 0, 0, 2, 0, 0}}
	for _, kind := range allKinds() {
		bad = append(bad, []byte{byte(kind), 0, 0, 0}, append([]byte{byte(kind), 0, 1, 1}, make([]byte, 257)...))
	}
	for _, w := range everywhere() {
		for _, b := range bad {
			x := newWorld(t)
			a := w.make(x)
			next := a.p.expected()
			if next.level < 0 {
				continue
			}
			for n := range len(b) - 1 { // as long as it is not whole, it waits
				if l, err := a.m.Take(next.level, b[n:n+1]); len(l) != 0 || err != nil {
					t.Fatalf("%s: %v, %v", w.what, l, err)
				}
				a.p.take(next.level, b[n:n+1])
			}
			a.refused(next.level, b[len(b)-1:], 50)
		}
	}
}

// A message that is not formed so, behind one that is.
func TestP13_3NoMessageBehind(t *testing.T) {
	for _, w := range everywhere() {
		for _, bad := range [][]byte{{0}, {20, 0, 0, 0}, {7, 0, 0, 0}, {7, 0, 0}, {1, 2, 3, 4, 5}} {
			x := newWorld(t)
			a := w.make(x)
			next := a.p.expected()
			if next.level < 0 {
				continue
			}
			before := a.m.Info()
			b := append(a.put(a.plays(next.kind)), bad...)
			a.take(next.level, b)
			if a.p.closed == nil {
				continue // it waits
			}
			l, err := a.m.Take(next.level, nil)
			if len(l) != 0 || err == nil || a.m.Info() != before {
				t.Fatalf("%s: %v, %v, %v", w.what, l, err, a.m.Info())
			}
			a.isClosed(*a.p.closed)
		}
	}
}

// What comes behind the last message of a level, in one call with it: no event of that call is told, and nothing has changed but that it is closed.
func TestP13_3Behind(t *testing.T) {
	x := newWorld(t)
	c := x.begun(x.client())
	c.refused(handshake.First, append(c.put(c.plays(hello.Server)), 0), 10)

	s := x.begun(x.server())
	s.refused(handshake.First, append(s.put(s.plays(hello.Client)), 0), 10)
	if s.m.Info() != (handshake.Info{}) {
		t.Errorf("Info = %v", s.m.Info())
	}

	c = x.at(x.client(), 4)
	c.refused(handshake.Hand, append(c.put(c.plays(hello.Finished)), 0), 10)
	if c.m.Info().Done || c.m.Info().Proto != "a" {
		t.Errorf("Info = %v", c.m.Info())
	}

	s = x.at(x.server(), 1)
	s.refused(handshake.Hand, append(s.put(s.plays(hello.Finished)), 0), 10)
	if s.m.Info().Done || s.m.Info().Proto != "a" {
		t.Errorf("Info = %v", s.m.Info())
	}
}

// big is a message's beginning that says it has so many bytes.
func big(kind, size int) []byte {
	return []byte{byte(kind), byte(size >> 16), byte(size >> 8), byte(size)}
}

// tooMany asks that a machine is closed for too many bytes.
func (a pair) tooMany(level int, b []byte) {
	a.t.Helper()
	a.take(level, b)
	a.isClosed(api.Close{Code: api.CryptoBuffer, Err: api.ErrBig})
}

// More than 65536 bytes that are no whole message: at once, in pieces, and byte by byte.
func TestP13_3TooMany(t *testing.T) {
	for _, w := range everywhere() {
		for i := range 4 {
			x := newWorld(t)
			a := w.make(x)
			next := a.p.expected()
			if next.level < 0 {
				continue
			}
			waits := append(big(next.kind, 1<<20), make([]byte, 65532)...)
			switch i {
			case 0:
				a.take(next.level, waits)
				a.tooMany(next.level, []byte{0})
			case 1:
				a.tooMany(next.level, append(waits, 0))
			case 2:
				a.take(next.level, waits[:9])
				a.take(next.level, waits[9:])
				a.take(next.level, nil)
				a.tooMany(next.level, []byte{0})
			case 3:
				a.take(next.level, waits[:9])
				a.tooMany(next.level, waits[8:])
			}
		}
	}
}

func TestP13_3TooManyByteByByte(t *testing.T) {
	x := newWorld(t)
	a := x.begun(x.client())
	waits := append(big(hello.Server, 1<<24-1), make([]byte, 65532)...)
	for i := range waits {
		if l, err := a.m.Take(handshake.First, waits[i:i+1]); len(l) != 0 || err != nil {
			t.Fatalf("byte %d: %v, %v", i, l, err)
		}
	}
	a.p.take(handshake.First, waits)
	a.tooMany(handshake.First, []byte{0})
}

// What counts is what waits as a call begins, with what comes: whole messages too, and it is asked for ahead of all else.
func TestP13_3TooManyWhole(t *testing.T) {
	x := newWorld(t)
	tickets := func(n int) (b []byte) { // n bytes of tickets, the last one filling up
		for len(b) < n {
			size := min(512, n-len(b)-11)
			if rest := n - len(b) - 11 - size; rest > 0 && rest < 12 {
				size -= 12
			}
			b = append(b, x.put(hello.Message{Kind: hello.Ticket, Ticket: make([]byte, size)})...)
		}
		return b
	}
	a := x.at(x.client(), 5)
	if b := tickets(65536); len(b) != 65536 || len(a.take(handshake.Data, b)) < 100 {
		t.Fatalf("%d bytes of whole messages are not taken", len(b))
	}
	for range 3 { // what was taken does not count any more
		a.take(handshake.Data, tickets(65536))
	}
	a.take(handshake.Data, []byte{4})
	b := tickets(65536)
	a.take(handshake.Data, b[1:]) // 65536 with the one that waits
	a.take(handshake.Data, []byte{4})
	a.tooMany(handshake.Data, b)

	a = x.at(x.client(), 5)
	a.tooMany(handshake.Data, tickets(65537))
	for _, level := range []int{handshake.First, handshake.Hand} { // at which nothing is expected
		a = x.at(x.client(), 5)
		a.tooMany(level, make([]byte, 65537))
		a = x.at(x.client(), 5)
		a.refused(level, make([]byte, 65536), 10)
	}
	a = x.begun(x.client()) // no message
	a.tooMany(handshake.First, make([]byte, 65537))
	a = x.begun(x.client())
	a.refused(handshake.First, make([]byte, 65536), 50)
}

// Bytes that wait at one level do not count at another.
func TestP13_3TooManyApart(t *testing.T) {
	x := newWorld(t)
	a := x.at(x.client(), 5)
	a.take(handshake.Data, append(big(hello.Ticket, 1<<20), make([]byte, 65000)...))
	a.take(handshake.Hand, nil)
	a.refused(handshake.Hand, make([]byte, 65536), 10)
}

// The error of a closed machine is told anew each time: who changes it changes no later one.
func TestP13_3ErrorsMemory(t *testing.T) {
	for _, b := range [][]byte{{0, 0, 0, 0}, make([]byte, 65537)} {
		x := newWorld(t)
		a := x.begun(x.client())
		a.take(handshake.First, b)
		want := *a.p.closed
		for range 3 {
			_, err := a.m.Take(handshake.First, nil)
			c := err.(*api.Close)
			if *c != want {
				t.Fatalf("%v, not %v", *c, want)
			}
			*c = api.Close{Code: 1, App: true, Kind: 2, Err: 3}
		}
		a.isClosed(want)
	}
}

// A closed machine's Info stays as it was.
func TestP13_3ClosedInfo(t *testing.T) {
	for _, w := range everywhere() {
		x := newWorld(t)
		a := w.make(x)
		before := a.m.Info()
		level := handshake.First
		if a.p.expected().level == level {
			level = handshake.Hand
		}
		a.refused(level, []byte{1}, 10)
		if a.m.Info() != before {
			t.Errorf("%s: %v, not %v", w.what, a.m.Info(), before)
		}
	}
}
