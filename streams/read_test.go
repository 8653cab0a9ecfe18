package streams_test

import (
	"math"
	"testing"

	"caravel/api"
)

// Streams that were never opened, or of which this side has no reading part.
func TestP21_3NoPart(t *testing.T) {
	s := client(t)
	s.opens(false, 0)
	s.opens(true, 2)
	s.takes(piece(1, 0, "a"), piece(3, 0, "a"))
	for _, id := range odd() {
		switch id {
		case 0:
			s.reads(id, 9, "", false)
		case 1, 3:
			s.reads(id, 9, "a", false)
		default:
			s.readsNot(id, api.ErrNone)
		}
	}
}

// At most n bytes, in order.
func TestP21_3Read(t *testing.T) {
	s := server(t)
	s.reads2(0, piece(0, 0, "abcdefgh"))
	for _, n := range []int{math.MinInt, -1, 0} {
		s.reads(0, n, "", false)
	}
	s.readable(0)
	s.reads(0, 1, "a", false)
	s.reads(0, 3, "bcd", false)
	s.reads(0, -1, "", false)
	s.reads(0, 4, "efgh", false)
	s.readable()
	s.reads(0, 1, "", false)
	s.takes(piece(0, 8, "ij"))
	s.reads(0, 3, "ij", false)
	s.takes(piece(0, 10, "kl"))
	s.reads(0, math.MaxInt, "kl", false)
}

// reads2 takes a frame, and asks that its stream is what can be read alone.
func (s side) reads2(id int, f api.Frame) {
	s.t.Helper()
	s.takes(f)
	s.readable(id)
}

// Pieces that come out of order and overlap: the first that had a byte counts.
func TestP21_3Order(t *testing.T) {
	s := server(t)
	s.takes(piece(0, 4, "ef"))
	s.reads(0, 9, "", false)
	s.readable()
	s.takes(piece(0, 1, "bcdXY"))
	s.readable()
	s.told(5, 6, 100, 1)
	s.takes(piece(0, 0, "aZ"))
	s.readable(0)
	s.told(6, 6, 100, 1)
	s.reads(0, 2, "ab", false)
	s.takes(piece(0, 0, "----gh"))
	s.reads(0, 9, "cdef", false)
	s.takes(piece(0, 0, "abcdef"), piece(0, 3, "---g"))
	s.reads(0, 9, "g", false)
	s.told(0, 7, 100, 1)
}

// done comes with the last byte, or behind it, and again each time.
func TestP21_3Done(t *testing.T) {
	s := server(t)
	s.takes(last(0, 0, "abc"))
	s.reads(0, 0, "", false)
	s.reads(0, 2, "ab", false)
	s.reads(0, 0, "", false)
	s.reads(0, 1, "c", true)
	for _, n := range []int{-1, 0, 1, 9} {
		s.reads(0, n, "", true)
	}
	s.takes(piece(4, 0, "abc"))
	s.reads(4, 9, "abc", false)
	s.reads(4, 9, "", false)
	s.takes(last(4, 3, ""))
	s.readable(4)
	s.reads(4, -1, "", true)
	s.readable()
	s.reads(4, 9, "", true)
	s.takes(last(2, 0, ""))
	s.reads(2, 0, "", true)
	s.reads(2, 1, "", true)
	s.takes(last(6, 2, "c"))
	s.readable()
	s.reads(6, 9, "", false)
	s.takes(piece(6, 0, "ab"))
	s.reads(6, 3, "abc", true)
}

// Behind Stop: ErrState, whatever comes, also of a stream that is over, or that the peer resets then.
func TestP21_3Stopped(t *testing.T) {
	s := server(t)
	s.takes(piece(0, 0, "abc"), piece(2, 0, "abc"), last(6, 0, "abc"))
	for _, id := range []int{0, 2, 6} {
		s.stops(id, 1, api.OK)
		s.readsNot(id, api.ErrState)
	}
	s.readable()
	s.takes(piece(0, 3, "def"), last(0, 6, "g"), resetOf(2, 5, 4), piece(6, 0, "abc"))
	for _, id := range []int{0, 2, 6} {
		s.readsNot(id, api.ErrState)
	}
	s.readable()
	s.told(0, 14, 100, 1)
	s.code(2, 5)
}

// Behind the peer's reset: ErrReset, and what came is not read any more; also when it is over.
func TestP21_3Reset(t *testing.T) {
	s := server(t)
	s.takes(piece(0, 0, "abc"), piece(2, 0, "abc"))
	s.reads(0, 1, "a", false)
	s.takes(resetOf(0, 5, 4), resetOf(2, 5, 3), resetOf(6, 5, 0))
	s.readable(0, 2, 6)
	for _, id := range []int{0, 2, 6} {
		s.readsNot(id, api.ErrReset)
		s.readsNot(id, api.ErrReset)
	}
	s.readable()
	s.takes(piece(0, 1, "bcd"))
	s.readsNot(0, api.ErrReset)
	s.told(0, 7, 100, 1)
}

// What came ahead of the reset, and the end too: it is reset all the same.
func TestP21_3ResetEnded(t *testing.T) {
	s := server(t)
	s.takes(last(0, 0, "abc"), resetOf(0, 5, 3), last(4, 0, "abc"))
	s.readable(0, 4)
	s.readsNot(0, api.ErrReset)
	s.reads(4, 9, "abc", true)
	s.takes(resetOf(4, 6, 3))
	s.readable(4)
	s.readsNot(4, api.ErrReset)
	s.readable()
}

// Readable's three cases, and that a Read takes each away; they rise.
func TestP21_3Readable(t *testing.T) {
	l := put(put(some(), 4, 9), 5, 9)
	s := begin(t, true, l, l)
	s.readable()
	s.opens(false, 1, 5)
	s.opens(true, 3)
	s.takes(piece(16, 0, "ab"), last(8, 0, ""), resetOf(6, 1, 0), piece(1, 0, "a"), piece(10, 1, "b"), piece(12, 0, ""), last(5, 1, ""))
	want := []int{1, 6, 8, 16}
	s.readable(want...)
	s.readable(want...)
	s.reads(16, 0, "", false)
	s.readable(want...)
	s.reads(16, 1, "a", false)
	s.readable(want...)
	s.reads(16, 1, "b", false)
	s.readable(1, 6, 8)
	s.reads(8, -1, "", true)
	s.readable(1, 6)
	s.readsNot(6, api.ErrReset)
	s.readable(1)
	s.reads(1, 9, "a", false)
	s.readable()
	s.takes(last(16, 2, ""), piece(5, 0, "a"), piece(10, 0, "a"))
	s.readable(5, 10, 16)
	s.reads(5, 1, "a", true)
	s.reads(10, 1, "a", false)
	s.readable(10, 16)
	s.stops(10, 1, api.OK)
	s.stops(16, 1, api.OK)
	s.readable()
}

// What is handed in is not kept, and what is handed out is new.
func TestP21_3Copied(t *testing.T) {
	s := server(t)
	b := []byte("abcdef")
	s.takes(api.Frame{Kind: api.Stream, Data: b[:4]})
	copy(b, "------")
	first, _, _ := s.Read(0, 2)
	same(t, "Read", string(first), "ab")
	for i := range first[:cap(first)] {
		first[:cap(first)][i] = '-'
	}
	s.reads(0, 9, "cd", false)
	s.takes(piece(4, 0, "a"), piece(0, 4, "e"))
	ids := s.Readable()
	ids[0] = 99
	s.readable(0, 4)
}

// Each stream is read by itself, whatever lacks of others.
func TestP21_3Apart(t *testing.T) {
	s := server(t)
	s.takes(piece(0, 1, "b"), last(4, 0, "xyz"), piece(2, 9, "c"))
	s.readable(4)
	s.reads(4, 2, "xy", false)
	s.reads(0, 9, "", false)
	s.reads(2, 9, "", false)
	s.reads(4, 2, "z", true)
}
