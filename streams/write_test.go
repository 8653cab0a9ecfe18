package streams_test

import (
	"bytes"
	"math"
	"strings"
	"testing"

	"caravel/api"
	"caravel/streams"
)

// Streams that were never opened, or of which this side has no such part.
func TestP21_2NoPart(t *testing.T) {
	for who := range 2 {
		s := begin(t, who == 1, some(), some())
		s.opens(false, who)
		s.opens(true, 2+who)
		s.takes(piece(5-who, 0, "a"), piece(7-who, 0, "a")) // the peer's first two of each kind
		mine, theirs := who, 1-who
		for _, id := range odd() {
			place, of := id>>2, id&3
			wrote := id >= 0 && (place == 0 && of == mine || place == 0 && of == 2+mine || place <= 1 && of == theirs)
			if wrote {
				s.writes(id, "ab")
			} else {
				s.writesNot(id, api.ErrNone)
			}
			read := id >= 0 && (place == 0 && of == mine || place <= 1 && of == theirs || place <= 1 && of == 2+theirs)
			if read {
				s.stops(id, 1, api.OK)
			} else {
				s.stops(id, 1, api.ErrNone)
			}
		}
	}
}

// Codes at their edges: ErrArg comes ahead of ErrNone, and of all else.
func TestP21_2Codes(t *testing.T) {
	for _, code := range []int{math.MinInt, -2, -1, 0, 1, top - 1, top, top + 1, math.MaxInt} {
		wrong := code < 0 || code > top
		want := func(e api.Errno) api.Errno {
			if wrong {
				return api.ErrArg
			}
			return e
		}
		s := client(t)
		s.resets(0, code, want(api.ErrNone))
		s.resets(-1, code, want(api.ErrNone))
		s.resets(3, code, want(api.ErrNone))
		s.stops(0, code, want(api.ErrNone))
		s.stops(-1, code, want(api.ErrNone))
		s.stops(2, code, want(api.ErrNone))
		s.opens(false, 0)
		s.writes(0, "abc")
		s.next(100)
		s.resets(0, code, want(api.OK))
		s.stops(0, code, want(api.OK))
		if wrong {
			s.quiet(wide)
			s.writes(0, "d")
			s.reads(0, 1, "", false)
			continue
		}
		s.tells(resetOf(0, code, 3), stopOf(0, code))
		s.resets(0, code, api.ErrState)
		s.stops(0, code, api.ErrState)
		s.resets(0, -1, api.ErrArg)
		s.stops(0, top+1, api.ErrArg)
	}
}

// Behind Finish nothing is written any more, nor behind Reset; reading goes on.
func TestP21_2Closed(t *testing.T) {
	s := client(t)
	s.opens(false, 0, 4)
	s.writes(0, "abc")
	s.finishes(0, api.OK)
	s.writesNot(0, api.ErrState)
	s.tells(last(0, 0, "abc"))
	s.writesNot(0, api.ErrState)
	s.resets(4, 9, api.OK)
	s.writesNot(4, api.ErrState)
	s.tells(resetOf(4, 9, 0))
	s.writesNot(4, api.ErrState)
	s.takes(piece(0, 0, "x"), piece(4, 0, "y"))
	s.reads(0, 9, "x", false)
	s.reads(4, 9, "y", false)
	s.stops(0, 1, api.OK)
	s.stops(4, 2, api.OK)
	s.tells(stopOf(0, 1), stopOf(4, 2))
}

// Stop gives up reading alone: writing goes on.
func TestP21_2StopReads(t *testing.T) {
	s := client(t)
	s.opens(false, 0)
	s.stops(0, 7, api.OK)
	s.writes(0, "abc")
	s.readsNot(0, api.ErrState)
	s.tells(stopOf(0, 7), piece(0, 0, "abc"))
	s.finishes(0, api.OK)
	s.tells(last(0, 3, ""))
}

// Behind the peer's StopSending: ErrReset; but behind an own Finish or Reset ErrState, which comes first.
func TestP21_2Stopped(t *testing.T) {
	s := client(t)
	s.opens(false, 0, 4)
	s.opens(true, 2)
	s.writes(0, "abc")
	s.writes(2, "abc")
	s.writes(4, "abc")
	s.next(4) // one byte of stream 0
	s.finishes(2, api.OK)
	s.resets(4, 1, api.OK)
	s.takes(stopOf(0, 7), stopOf(2, 8), stopOf(4, 9))
	s.writesNot(0, api.ErrReset)
	s.writesNot(2, api.ErrState)
	s.writesNot(4, api.ErrState)
	s.resets(0, -1, api.ErrArg)
	s.tells(resetOf(0, 7, 1), resetOf(2, 8, 0), resetOf(4, 1, 0))
	s.code(0, 7)
	s.code(2, 8)
	s.code(4, 9)
	s.writesNot(0, api.ErrReset)
	s.takes(stopOf(0, 70), stopOf(2, 80), stopOf(4, 90))
	s.quiet(wide)
	s.writesNot(0, api.ErrReset)
	s.writesNot(2, api.ErrState)
}

// When its reset has arrived, the stream may go on for reading: it is ErrReset still; over, it is ErrState.
func TestP21_2StoppedOver(t *testing.T) {
	s := client(t)
	s.opens(false, 0)
	s.takes(stopOf(0, 7))
	s.acked(s.tells(resetOf(0, 7, 0))...)
	s.writesNot(0, api.ErrReset)
	s.takes(last(0, 0, "ab"))
	s.reads(0, 9, "ab", true)
	s.writesNot(0, api.ErrState)
	s.code(0, 7)
}

// The peer's ResetStream is about reading alone.
func TestP21_2PeerReset(t *testing.T) {
	s := client(t)
	s.opens(false, 0)
	s.writes(0, "abc")
	s.takes(resetOf(0, 5, 0))
	s.writes(0, "def")
	s.stops(0, 1, api.ErrState)
	s.finishes(0, api.OK)
	s.tells(last(0, 0, "abcdef"))
	s.code(0, 5)
}

// Stop of what was stopped, was reset, or was read to its end.
func TestP21_2StopTwice(t *testing.T) {
	s := server(t)
	s.takes(piece(0, 0, "ab"), last(4, 0, "ab"), resetOf(2, 3, 0), last(6, 0, ""))
	s.stops(0, 1, api.OK)
	s.stops(0, 1, api.ErrState)
	s.reads(4, 1, "a", false)
	s.stops(2, 1, api.ErrState)
	s.reads(6, 0, "", true)
	s.stops(6, 1, api.ErrState)
	s.reads(4, 1, "b", true)
	s.stops(4, 1, api.ErrState)
	s.tells(maxStreams(true, 3), stopOf(0, 1))
	s.takes(resetOf(0, 5, 2))
	s.stops(0, 1, api.ErrState)
}

// A stream whose end is known, but that was not read to it, can be stopped, and the peer is told, once.
func TestP21_2StopEnded(t *testing.T) {
	s := server(t)
	s.takes(last(0, 0, "abc"), last(2, 2, ""))
	s.reads(0, 2, "ab", false)
	s.stops(0, 4, api.OK)
	s.stops(2, 5, api.OK)
	s.told(0, 5, 100, 1)
	s.lost(s.tells(maxStreams(true, 3), stopOf(0, 4), stopOf(2, 5))[1:]...)
	s.quiet(wide)
}

// Nothing of a stream that is over, of whichever side.
func TestP21_2Over(t *testing.T) {
	s := client(t)
	s.opens(false, 0)
	s.opens(true, 2)
	ends(s, 0)
	ends(s, 2)
	s.takes(last(1, 0, ""), last(3, 0, "ab"))
	s.finishes(1, api.OK)
	s.acked(s.tells(last(1, 0, ""))...)
	s.reads(1, 1, "", true)
	s.reads(3, 9, "ab", true)
	s.told(0, 2, 100, 0)
	for _, id := range []int{0, 1, 2} {
		s.writesNot(id, api.ErrState)
	}
	s.writesNot(3, api.ErrNone)
	for _, id := range []int{0, 1, 3} {
		s.stops(id, 0, api.ErrState)
	}
	s.stops(2, 0, api.ErrNone)
	s.tells(maxStreams(false, 3), maxStreams(true, 3))
}

// Write takes as many bytes as there is room for: 65536 that have not arrived.
func TestP21_2Room(t *testing.T) {
	text := []byte(strings.Repeat("0123456789abcdef", 5000))
	for _, n := range []int{0, 1, 65535, 65536, 65537, 80000} {
		s := begin(t, false, plenty(), plenty())
		s.opens(false, 0, 4)
		got, e := s.Write(0, text[:n])
		same(t, "Write", got, min(n, 65536))
		same(t, "Write", e, api.OK)
		got, e = s.Write(0, text[:n])
		same(t, "Write", got, min(n, 65536-min(n, 65536)))
		same(t, "Write", e, api.OK)
		got, e = s.Write(4, text[:n]) // each has its own
		same(t, "Write", got, min(n, 65536))
		same(t, "Write", e, api.OK)
		got, e = s.Write(4, nil)
		same(t, "Write", got, 0)
		same(t, "Write", e, api.OK)
	}
}

// Behind what has arrived there is room again, whatever was sent.
func TestP21_2RoomAgain(t *testing.T) {
	s := begin(t, false, plenty(), plenty())
	s.opens(true, 2)
	text := bytes.Repeat([]byte("0123456789abcdef"), 4096)
	s.writes(2, string(text))
	n, e := s.Write(2, text)
	same(t, "Write", n, 0)
	same(t, "Write", e, api.OK)
	f, g := s.next(1000), s.next(1000)
	n, _ = s.Write(2, text)
	same(t, "Write", n, 0)
	s.acked(g) // what is ahead of it has not arrived
	n, _ = s.Write(2, text)
	same(t, "Write", n, 0)
	s.lost(f)
	n, _ = s.Write(2, text)
	same(t, "Write", n, 0)
	s.acked(f)
	n, _ = s.Write(2, text)
	same(t, "Write", n, len(f.Data)+len(g.Data))
	s.finishes(2, api.OK)
	s.writesNot(2, api.ErrState)
	all := append(append([]byte{}, text...), text[:n]...)
	for at := g.Offset + len(g.Data); at < len(all); {
		f := s.next(70000)
		same(t, "Offset", f.Offset, at)
		same(t, "Data", string(f.Data), string(all[at:at+len(f.Data)]))
		at += len(f.Data)
		same(t, "Fin", f.Fin, at == len(all))
	}
}

// What was not sent is given up by a Reset: the peer is told how far was.
func TestP21_2ResetSent(t *testing.T) {
	for sent := range 7 {
		s := client(t)
		s.opens(true, 2)
		s.writes(2, "abcdef")
		var on []api.Frame
		for at := range sent {
			f := s.next(5 - max(1-at, 0)) // one byte: an offset takes room of its own
			same(t, "Data", string(f.Data), "abcdef"[at:at+1])
			on = append(on, f)
		}
		s.lost(on...)
		s.resets(2, 6, api.OK)
		s.tells(resetOf(2, 6, sent))
		s.lost(on...)
		s.quiet(wide)
		s.told(0, 0, 100, 1)
		s.acked(on...)
		s.told(0, 0, 100, 1)
		s.acked(resetOf(2, 6, sent))
		s.told(0, 0, 100, 0)
	}
}

// What was written is not kept by whoever hands it in, nor changed.
func TestP21_2Copied(t *testing.T) {
	s := client(t)
	s.opens(false, 0)
	b := []byte("abcdef")
	n, _ := s.Write(0, b[:3])
	same(t, "Write", n, 3)
	copy(b, "xyz")
	f := s.next(99)
	same(t, "Data", string(f.Data), "abc")
	same(t, "the spare room", string(b), "xyzdef")
	for i := range f.Data[:cap(f.Data)] {
		f.Data[:cap(f.Data)][i] = '-'
	}
	s.lost(piece(0, 0, "abc"))
	s.tells(piece(0, 0, "abc"))
}

// Code tells the peer's reset, or else its stop, whichever came first; the first of each.
func TestP21_2Code(t *testing.T) {
	for _, row := range []struct {
		frames []api.Frame
		want   int
	}{
		{nil, -1},
		{[]api.Frame{piece(0, 0, "ab"), blockedOf(0, 3), maxStreamData(0, 90)}, -1},
		{[]api.Frame{last(0, 0, "ab")}, -1},
		{[]api.Frame{stopOf(0, 7)}, 7},
		{[]api.Frame{stopOf(0, 0)}, 0},
		{[]api.Frame{stopOf(0, top)}, top},
		{[]api.Frame{resetOf(0, 8, 0)}, 8},
		{[]api.Frame{resetOf(0, 0, 0)}, 0},
		{[]api.Frame{resetOf(0, top, 2)}, top},
		{[]api.Frame{stopOf(0, 7), resetOf(0, 8, 0)}, 8},
		{[]api.Frame{resetOf(0, 8, 0), stopOf(0, 7)}, 8},
		{[]api.Frame{resetOf(0, 0, 0), stopOf(0, 7)}, 0},
		{[]api.Frame{stopOf(0, 7), stopOf(0, 9)}, 7},
		{[]api.Frame{resetOf(0, 8, 0), resetOf(0, 9, 0)}, 8},
	} {
		for who := range 2 {
			s := begin(t, who == 1, some(), some())
			if who == 0 {
				s.opens(false, 0)
			} else {
				s.takes(piece(0, 0, ""))
			}
			s.takes(row.frames...)
			s.code(0, row.want)
			s.code(0, row.want)
			for _, id := range []int{-4, 1, 2, 3, 4} {
				s.code(id, -1)
			}
		}
	}
}

// It tells it also when the stream is over; an own reset or stop is none of the peer's.
func TestP21_2CodeOver(t *testing.T) {
	s := client(t)
	s.opens(true, 2)
	s.opens(false, 0)
	s.takes(stopOf(2, 7), resetOf(3, 8, 0))
	s.resets(0, 1, api.OK)
	s.stops(0, 2, api.OK)
	s.code(0, -1)
	s.acked(s.drain()...)
	s.readsNot(3, api.ErrReset)
	s.takes(last(0, 0, ""))
	s.told(0, 0, 100, 0)
	s.code(0, -1)
	s.code(2, 7)
	s.code(3, 8)
}

// A StopSending whose code no reset can have.
func TestP21_2StopCode(t *testing.T) {
	for _, code := range []int{math.MinInt, -1, top + 1, math.MaxInt} {
		s := begin(t, true, some(), streams.Limits{Data: 9, Local: 9, Remote: 9, Uni: 9})
		same(t, "Take", s.Take(stopOf(4, code)), error(api.ErrArg))
		s.accepts()
		s.takes(piece(0, 0, ""))
		same(t, "Take", s.Take(stopOf(0, code)), error(api.ErrArg))
		s.code(0, -1)
		s.writes(0, "a")
		s.tells(piece(0, 0, "a"))
	}
}
