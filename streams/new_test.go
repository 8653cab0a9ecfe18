package streams_test

import (
	"math"
	"testing"

	"caravel/api"
	"caravel/streams"
)

// put sets one number of limits.
func put(l streams.Limits, field, n int) streams.Limits {
	*[]*int{&l.Data, &l.Local, &l.Remote, &l.Uni, &l.Bidis, &l.Unis}[field] = n
	return l
}

// newIs asks for what New answers of own and peer, of both sides.
func newIs(t *testing.T, own, peer streams.Limits, want api.Errno) {
	t.Helper()
	for _, server := range []bool{false, true} {
		x, e := streams.New(server, own, peer)
		if e != want || (x != nil) != (e == api.OK) {
			t.Fatalf("New(%v, %v, %v) = %v, %d, not %d", server, own, peer, x, int(e), int(want))
		}
	}
}

// Each number of own and of peer, at its edges, behind least and greatest others.
func TestP21_1New(t *testing.T) {
	ownMost := []int{1 << 30, 1 << 20, 1 << 20, 1 << 20, 1024, 1024}
	peerMost := []int{1<<62 - 1, 1<<62 - 1, 1<<62 - 1, 1<<62 - 1, 1 << 60, 1 << 60}
	var ownTop, peerTop streams.Limits
	for field := range 6 {
		ownTop, peerTop = put(ownTop, field, ownMost[field]), put(peerTop, field, peerMost[field])
	}
	for _, own := range []streams.Limits{{}, ownTop} {
		for _, peer := range []streams.Limits{{}, peerTop} {
			newIs(t, own, peer, api.OK)
			for field := range 6 {
				for _, n := range []int{math.MinInt, -1, 0, 1, ownMost[field] - 1, ownMost[field], ownMost[field] + 1, peerMost[field] - 1, peerMost[field], peerMost[field] + 1, math.MaxInt} {
					ownWant, peerWant := api.OK, api.OK
					if n < 0 || n > ownMost[field] {
						ownWant = api.ErrArg
					}
					if n < 0 || n > peerMost[field] {
						peerWant = api.ErrArg
					}
					newIs(t, put(own, field, n), peer, ownWant)
					newIs(t, own, put(peer, field, n), peerWant)
				}
			}
		}
	}
	newIs(t, put(ownTop, 3, -1), put(peerTop, 4, -1), api.ErrArg)
}

// Of a new table there is nothing yet but what this side allows.
func TestP21_1NewTells(t *testing.T) {
	for _, server := range []bool{false, true} {
		for _, data := range []int{0, 1, 77, 1 << 30} {
			own := put(some(), 0, data)
			s := begin(t, server, own, plenty())
			s.told(0, 0, data, 0)
			s.accepts()
			s.readable()
			s.quiet(wide)
			for id := range 12 {
				s.writesNot(id, api.ErrNone)
				s.readsNot(id, api.ErrNone)
				s.stops(id, 0, api.ErrNone)
				s.code(id, -1)
			}
		}
	}
}

// Each side's numbers, of both kinds, up to what the peer allows; each kind by itself.
func TestP21_1Open(t *testing.T) {
	for bidis := range 4 {
		for unis := range 4 {
			peer := streams.Limits{Bidis: bidis, Unis: unis}
			for who := range 2 {
				s := begin(t, who == 1, streams.Limits{}, peer)
				for place := range 4 {
					for kind, most := range []int{bidis, unis} {
						if place < most {
							s.opens(kind == 1, 4*place+2*kind+who)
						} else {
							s.opensNot(kind == 1)
						}
					}
				}
				s.told(0, 0, 0, bidis+unis)
				s.quiet(wide) // an opened stream alone is nothing that the peer is told
			}
		}
	}
}

// MaxStreams raises how many there may be, of its kind alone, and never lowers it.
func TestP21_1OpenRaised(t *testing.T) {
	s := begin(t, true, streams.Limits{}, streams.Limits{Bidis: 1})
	s.opens(false, 1)
	s.opensNot(false)
	s.takes(maxStreams(false, 1), maxStreams(false, 0), maxStreams(false, -1), maxStreams(false, math.MinInt))
	s.opensNot(false)
	s.takes(maxStreams(false, 3), maxStreams(false, 2))
	s.opens(false, 5, 9)
	s.opensNot(false)
	s.opensNot(true)
	s.takes(maxStreams(true, 2))
	s.opensNot(false)
	s.opens(true, 3, 7)
	s.opensNot(true)
	s.takes(maxStreams(true, top), maxStreams(false, math.MaxInt))
	s.opens(true, 11)
	s.opens(false, 13)
}

// At most 1024 of a kind are not over, whatever the peer allows; one that is over makes room.
func TestP21_1OpenMost(t *testing.T) {
	for kind := range 2 {
		s := begin(t, false, plenty(), streams.Limits{Data: 10, Local: 10, Remote: 10, Uni: 10, Bidis: 1 << 60, Unis: 1 << 60})
		uni := kind == 1
		for place := range 1024 {
			s.opens(uni, 4*place+2*kind)
		}
		s.opensNot(uni)
		s.opens(!uni, 2-2*kind) // the other kind has its own
		same(t, "streams", liveOf(s), 1025)
		ends(s, 4*500+2*kind)
		same(t, "streams", liveOf(s), 1024)
		s.opens(uni, 4*1024+2*kind)
		s.opensNot(uni)
		s.writesNot(4*500+2*kind, api.ErrState)
		ends(s, 4*1024+2*kind)
		ends(s, 2*kind)
		s.opens(uni, 4*1025+2*kind, 4*1026+2*kind)
		s.opensNot(uni)
	}
}

// What the peer allows counts also those that are over.
func TestP21_1OpenOver(t *testing.T) {
	s := client(t)
	s.opens(true, 2, 6)
	ends(s, 2)
	ends(s, 6)
	s.told(0, 0, 100, 0)
	s.opensNot(true)
	s.takes(maxStreams(true, 3))
	s.opens(true, 10)
	s.opensNot(true)
}

// The peer's streams don't count as this side's.
func TestP21_1OpenPeers(t *testing.T) {
	s := client(t)
	s.takes(piece(5, 0, "a"), piece(7, 0, "a"))
	s.opens(false, 0, 4)
	s.opens(true, 2, 6)
	s.told(2, 2, 100, 8)
}

func liveOf(s side) int {
	_, _, _, live := s.Told()
	return live
}

// ends has both parts of a stream end that this side opened, the writing part first.
func ends(s side, id int) {
	s.t.Helper()
	s.finishes(id, api.OK)
	s.acked(s.tells(last(id, 0, ""))...)
	if id&2 == 0 {
		s.takes(last(id, 0, ""))
		s.reads(id, 0, "", true)
	}
}

// A frame opens all of its kind up to its own, and Accept tells each once, the least first.
func TestP21_1Accept(t *testing.T) {
	l := put(put(some(), 4, 9), 5, 9)
	for who := range 2 {
		for kind := range 2 {
			s := begin(t, who == 0, l, l)
			low := who + 2*kind
			s.accepts()
			s.takes(piece(12+low, 0, ""))
			s.accepts(low, 4+low, 8+low, 12+low)
			s.takes(piece(12+low, 0, "a"), piece(4+low, 0, "a"))
			s.accepts()
			s.takes(piece(16+low, 0, ""))
			s.accepts(16 + low)
			s.takes(piece(20+low, 0, ""), piece(32+low, 0, ""))
			s.accepts(20+low, 24+low, 28+low, 32+low)
			s.told(2, 2, 100, 9)
		}
	}
}

// Of several openings the earlier one's streams are told first.
func TestP21_1AcceptOpenings(t *testing.T) {
	s := begin(t, true, put(put(some(), 4, 9), 5, 9), some())
	s.takes(piece(6, 0, ""), piece(4, 0, ""))
	id, ok := s.Accept()
	same(t, "Accept", id, 2)
	same(t, "Accept", ok, true)
	s.takes(piece(10, 0, ""))
	s.accepts(6, 0, 4, 10)
	s.takes(piece(8, 0, ""), piece(14, 0, ""), piece(20, 0, ""))
	s.accepts(8, 14, 12, 16, 20)
}

// Each kind of frame that is about a stream opens it; this side's own are never accepted.
func TestP21_1AcceptKinds(t *testing.T) {
	frames := []api.Frame{piece(4, 0, ""), last(4, 0, ""), resetOf(4, 1, 0), blockedOf(4, 0), stopOf(4, 1), maxStreamData(4, 0)}
	for _, f := range frames {
		s := server(t)
		s.opens(false, 1)
		s.takes(f)
		s.accepts(0, 4)
		s.told(0, 0, 100, 3)
		s.writes(0, "abc")
		s.reads(0, 1, "", false)
	}
	for _, f := range append(frames[:4:4], piece(4, 1, "b")) {
		s := server(t)
		s.takes(piece(0, 0, ""))
		f.Stream = 6
		s.takes(f)
		s.accepts(0, 2, 6)
		s.writesNot(2, api.ErrNone)
		s.writesNot(6, api.ErrNone)
	}
}

// A stream is accepted also when it is over already, or was read before.
func TestP21_1AcceptOver(t *testing.T) {
	s := server(t)
	s.takes(last(6, 0, "ab"))
	s.reads(6, 9, "ab", true)
	s.told(0, 2, 100, 1)
	s.accepts(2, 6)
	s.reads(6, 9, "", true)
}
