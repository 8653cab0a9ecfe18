package streams_test

import (
	"testing"

	"caravel/api"
)

// Each step of a stream's life, from the side that it is written at and the other.
func TestP21_6Life(t *testing.T) {
	a, b := client(t), server(t)
	a.told(0, 0, 100, 0)
	a.opens(false, 0)
	a.told(0, 0, 100, 1)
	a.writes(0, "abcde")
	a.finishes(0, api.OK)
	a.told(0, 0, 100, 1)
	f, g := a.next(6), a.next(wide)
	b.takes(g)
	b.told(2, 5, 100, 1)
	b.takes(f, f, g)
	b.told(5, 5, 100, 1)
	a.acked(f)
	a.told(0, 0, 100, 1)
	a.acked(g)
	a.told(0, 0, 100, 1)
	b.reads(0, 2, "ab", false)
	b.told(3, 5, 100, 1)
	b.writes(0, "xyz")
	b.reads(0, 9, "cde", true)
	b.told(0, 5, 100, 1)
	b.finishes(0, api.OK)
	h := b.tells(last(0, 0, "xyz"))
	b.told(0, 5, 100, 1)
	b.acked(h...)
	b.told(0, 5, 100, 0)
	b.tells(maxStreams(false, 3))
	a.takes(h...)
	a.told(3, 3, 100, 1)
	a.reads(0, 3, "xyz", true)
	a.told(0, 3, 100, 0)
}

// One way: the writer's is over when all has arrived, the reader's when all was read.
func TestP21_6OneWay(t *testing.T) {
	a, b := client(t), server(t)
	a.opens(true, 2)
	a.writes(2, "ab")
	one := a.tells(piece(2, 0, "ab"))
	a.finishes(2, api.OK)
	a.acked(one...)
	a.told(0, 0, 100, 1)
	two := a.tells(last(2, 2, ""))
	b.takes(two...)
	b.told(0, 2, 100, 1)
	b.reads(2, 9, "", false)
	b.takes(one...)
	b.told(2, 2, 100, 1)
	b.reads(2, 2, "ab", true)
	b.told(0, 2, 100, 0)
	a.lost(two...)
	a.told(0, 0, 100, 1)
	a.acked(a.tells(two...)...)
	a.told(0, 0, 100, 0)
}

// The writing part is over when its reset has arrived, or when all has.
func TestP21_6Reset(t *testing.T) {
	for _, stop := range []bool{false, true} {
		s := client(t)
		s.opens(true, 2)
		s.writes(2, "ab")
		on := s.tells(piece(2, 0, "ab"))
		if stop {
			s.takes(stopOf(2, 5))
		} else {
			s.resets(2, 5, api.OK)
		}
		s.acked(on...)
		s.told(0, 0, 100, 1)
		s.acked(resetOf(2, 5, 2)) // that was not told yet
		s.told(0, 0, 100, 1)
		reset := s.tells(resetOf(2, 5, 2))
		s.acked(resetOf(2, 5, 1), resetOf(2, 4, 2), resetOf(6, 5, 2))
		s.told(0, 0, 100, 1)
		s.acked(reset...)
		s.told(0, 0, 100, 0)
		s.acked(reset...)
		s.told(0, 0, 100, 0)
	}
}

// All arrived, though the peer stopped it: it is over, and its reset needs not arrive.
func TestP21_6ResetEnded(t *testing.T) {
	for _, resetFirst := range []bool{false, true} {
		s := client(t)
		s.opens(true, 2)
		s.writes(2, "ab")
		s.finishes(2, api.OK)
		on := s.tells(last(2, 0, "ab"))
		s.takes(stopOf(2, 5))
		if resetFirst {
			s.tells(resetOf(2, 5, 2))
		}
		s.acked(on...)
		s.told(0, 0, 100, 0)
		s.quiet(wide)
	}
	s := client(t)
	s.opens(true, 2)
	s.writes(2, "ab")
	s.finishes(2, api.OK)
	on := s.next(4)
	s.takes(stopOf(2, 5))
	s.acked(on, last(2, 1, "b"), last(2, 0, "ab")) // the rest was never sent
	s.told(0, 0, 100, 1)
	s.tells(resetOf(2, 5, 1))
}

// The reading part is over when all was read: not when it came.
func TestP21_6Read(t *testing.T) {
	s := server(t)
	s.takes(last(2, 0, "ab"))
	s.told(2, 2, 100, 1)
	s.reads(2, 1, "a", false)
	s.told(1, 2, 100, 1)
	s.reads(2, 1, "b", true)
	s.told(0, 2, 100, 0)
	s.takes(piece(6, 0, "ab"))
	s.reads(6, 9, "ab", false)
	s.told(0, 4, 100, 1)
	s.takes(last(6, 2, ""))
	s.told(0, 4, 100, 1) // nobody was told yet that it ends here
	s.readable(6)
	s.reads(6, 0, "", true)
	s.told(0, 4, 100, 0)
}

// Or when Read told ErrReset.
func TestP21_6PeerReset(t *testing.T) {
	s := server(t)
	s.takes(piece(2, 0, "ab"), resetOf(2, 5, 7))
	s.told(0, 7, 100, 1)
	s.readsNot(2, api.ErrReset)
	s.told(0, 7, 100, 0)
	s.readsNot(2, api.ErrReset)
	s.takes(resetOf(4, 5, 1))
	s.readsNot(4, api.ErrReset)
	s.told(0, 8, 100, 2) // its writing part is not, nor that of 0
	s.resets(4, 1, api.OK)
	s.acked(s.drain()...)
	s.told(0, 8, 100, 1)
}

// Or when it was stopped, and its end is known.
func TestP21_6Stopped(t *testing.T) {
	for _, end := range []api.Frame{last(2, 3, ""), last(2, 2, "c"), resetOf(2, 9, 3)} {
		s := server(t)
		s.takes(piece(2, 0, "ab"))
		s.stops(2, 1, api.OK)
		s.told(0, 2, 100, 1)
		s.takes(piece(2, 2, "c"))
		s.told(0, 3, 100, 1)
		s.takes(end)
		s.told(0, 3, 100, 0)
		s = server(t)
		s.takes(end)
		if end.Kind == api.Stream {
			s.stops(2, 1, api.OK) // the end was known before
			s.told(0, 3, 100, 0)
		}
	}
}

// For each side by itself: one may be done with a stream when the other is not.
func TestP21_6Sides(t *testing.T) {
	a, b := client(t), server(t)
	a.opens(false, 0)
	a.writes(0, "ab")
	a.finishes(0, api.OK)
	on := a.tells(last(0, 0, "ab"))
	b.takes(on...)
	b.stops(0, 3, api.OK)
	b.resets(0, 4, api.OK)
	back := b.tells(resetOf(0, 4, 0), stopOf(0, 3))
	b.acked(back...)
	b.told(0, 2, 100, 0)
	a.takes(back...)
	a.tells(resetOf(0, 3, 2))
	a.readsNot(0, api.ErrReset)
	a.told(0, 0, 100, 1)
	a.acked(on...)
	a.told(0, 0, 100, 0)
	a.code(0, 4)
}

// Of several streams the bytes are counted together, gaps too, as far as each reached.
func TestP21_6Together(t *testing.T) {
	s := server(t)
	s.opens(false, 1)
	s.takes(piece(0, 3, "de"), piece(4, 0, "ab"), piece(2, 9, ""), piece(1, 0, "xyz"))
	s.told(7, 19, 100, 4)
	s.reads(4, 1, "a", false)
	s.told(6, 19, 100, 4)
	s.takes(piece(0, 4, "ef"), piece(0, 0, "abc"))
	s.told(10, 20, 100, 4)
	s.stops(0, 1, api.OK)
	s.told(4, 20, 100, 4)
	s.takes(piece(0, 0, "abcdefgh"))
	s.told(4, 22, 100, 4)
	s.takes(resetOf(1, 1, 40))
	s.told(1, 59, 100, 4)
}
