package streams_test

import (
	"errors"
	"math"
	"slices"
	"testing"

	"caravel/api"
	"caravel/frame"
	"caravel/streams"
)

const (
	huge = math.MaxInt
	top  = api.MaxVar
	wide = 1 << 20 // room for whatever is told
)

// side is a table that is asked for what it must answer.
type side struct {
	t *testing.T
	*streams.Table
}

func begin(t *testing.T, server bool, own, peer streams.Limits) side {
	x, e := streams.New(server, own, peer)
	if x == nil || e != api.OK {
		t.Helper()
		t.Fatalf("New(%v, %v, %v) = %v, %d", server, own, peer, x, int(e))
	}
	return side{t, x}
}

// some are limits that are enough for most tests.
func some() streams.Limits {
	return streams.Limits{Data: 100, Local: 50, Remote: 50, Uni: 50, Bidis: 2, Unis: 2}
}

// plenty are limits that are never come to.
func plenty() streams.Limits {
	return streams.Limits{Data: 1 << 30, Local: api.MaxBuffer, Remote: api.MaxBuffer, Uni: api.MaxBuffer, Bidis: 1024, Unis: 1024}
}

func client(t *testing.T) side { t.Helper(); return begin(t, false, some(), some()) }

func server(t *testing.T) side { t.Helper(); return begin(t, true, some(), some()) }

// same asks for what a call answered.
func same[T comparable](t *testing.T, what string, got, want T) {
	if got != want {
		t.Helper()
		t.Fatalf("%s: %v, not %v", what, got, want)
	}
}

func (s side) opens(uni bool, ids ...int) {
	s.t.Helper()
	for _, want := range ids {
		id, e := s.Open(uni)
		same(s.t, "Open's error", int(e), 0)
		same(s.t, "Open", id, want)
	}
}

func (s side) opensNot(uni bool) {
	s.t.Helper()
	id, e := s.Open(uni)
	same(s.t, "Open's error", int(e), int(api.ErrLimit))
	same(s.t, "Open", id, 0)
}

// accepts asks for the streams that Accept tells, and that it tells no more.
func (s side) accepts(ids ...int) {
	s.t.Helper()
	for _, want := range ids {
		id, ok := s.Accept()
		same(s.t, "Accept", id, want)
		same(s.t, "Accept", ok, true)
	}
	id, ok := s.Accept()
	same(s.t, "Accept", id, 0)
	same(s.t, "Accept", ok, false)
}

func (s side) writes(id int, text string) {
	s.t.Helper()
	n, e := s.Write(id, []byte(text))
	same(s.t, "Write's error", int(e), 0)
	same(s.t, "Write", n, len(text))
}

// writesNot asks for the error of Write, Finish and Reset alike.
func (s side) writesNot(id int, want api.Errno) {
	s.t.Helper()
	n, e := s.Write(id, []byte("no"))
	same(s.t, "Write's error", int(e), int(want))
	same(s.t, "Write", n, 0)
	s.finishes(id, want)
	s.resets(id, 3, want)
}

func (s side) finishes(id int, want api.Errno) {
	s.t.Helper()
	same(s.t, "Finish", int(s.Finish(id)), int(want))
}

func (s side) resets(id, code int, want api.Errno) {
	s.t.Helper()
	same(s.t, "Reset", int(s.Reset(id, code)), int(want))
}

func (s side) stops(id, code int, want api.Errno) {
	s.t.Helper()
	same(s.t, "Stop", int(s.Stop(id, code)), int(want))
}

func (s side) reads(id, n int, text string, done bool) {
	s.t.Helper()
	b, last, e := s.Read(id, n)
	same(s.t, "Read's error", int(e), 0)
	same(s.t, "Read", string(b), text)
	same(s.t, "Read's done", last, done)
}

func (s side) readsNot(id int, want api.Errno) {
	s.t.Helper()
	for _, n := range []int{-1, 0, 1, 99} {
		b, last, e := s.Read(id, n)
		same(s.t, "Read's error", int(e), int(want))
		same(s.t, "Read", len(b), 0)
		same(s.t, "Read's done", last, false)
	}
}

func (s side) readable(ids ...int) {
	s.t.Helper()
	if got := s.Readable(); !slices.Equal(got, ids) {
		s.t.Fatalf("Readable: %v, not %v", got, ids)
	}
}

// code asks for what Code tells: -1 if nothing.
func (s side) code(id, want int) {
	s.t.Helper()
	code, ok := s.Code(id)
	same(s.t, "Code", ok, want >= 0)
	same(s.t, "Code", code, max(want, 0))
}

func (s side) told(held, came, limit, live int) {
	s.t.Helper()
	a, b, c, d := s.Told()
	same(s.t, "Told", [4]int{a, b, c, d}, [4]int{held, came, limit, live})
}

func (s side) takes(frames ...api.Frame) {
	s.t.Helper()
	for _, f := range frames {
		if err := s.Take(f); err != nil {
			s.t.Fatalf("Take(%v): %v", f, err)
		}
	}
}

// refuses asks for what a frame closes the connection with.
func (s side) refuses(f api.Frame, code int, want api.Errno) {
	s.t.Helper()
	err := s.Take(f)
	var end *api.Close
	if !errors.As(err, &end) || *end != (api.Close{Code: code, Kind: f.Kind, Err: want}) || !errors.Is(err, want) {
		s.t.Fatalf("Take(%v): %v, not a Close with %d and %d", f, err, code, int(want))
	}
}

// next tells the next frame, which must be one.
func (s side) next(room int) api.Frame {
	s.t.Helper()
	f, ok := s.Next(room)
	if !ok {
		s.t.Fatalf("Next(%d) tells nothing", room)
	}
	if b, e := frame.Put(f); e != api.OK || len(b) > room {
		s.t.Fatalf("Next(%d) = %v, of %d bytes (%d)", room, f, len(b), int(e))
	}
	return f
}

// tells asks for the frames that Next tells, and that it tells no more; it tells them.
func (s side) tells(want ...api.Frame) []api.Frame {
	s.t.Helper()
	for _, f := range want {
		if got := s.next(wide); !alike(got, f) {
			s.t.Fatalf("Next = %v, not %v", got, f)
		}
	}
	s.quiet(wide)
	return want
}

// quiet asks that Next tells nothing.
func (s side) quiet(room int) {
	s.t.Helper()
	if f, ok := s.Next(room); ok || !alike(f, api.Frame{}) {
		s.t.Fatalf("Next(%d) = %v, %v", room, f, ok)
	}
}

func (s side) acked(frames ...api.Frame) {
	for _, f := range frames {
		s.Acked(f)
	}
}

func (s side) lost(frames ...api.Frame) {
	for _, f := range frames {
		s.Lost(f)
	}
}

// drain tells all frames that are to be sent.
func (s side) drain() []api.Frame {
	s.t.Helper()
	var all []api.Frame
	for {
		f, ok := s.Next(wide)
		if !ok {
			return all
		}
		all = append(all, f)
	}
}

// alike tells whether two frames are, field by field.
func alike(f, g api.Frame) bool {
	return f.Kind == g.Kind && f.Stream == g.Stream && f.Offset == g.Offset && string(f.Data) == string(g.Data) && f.Fin == g.Fin && f.Length == g.Length &&
		f.Limit == g.Limit && f.Code == g.Code && f.Of == g.Of && len(f.Acks) == len(g.Acks) && f.Delay == g.Delay && f.Ecn == g.Ecn && f.Seq == g.Seq &&
		f.Retire == g.Retire && string(f.ID) == string(g.ID) && f.Reset == g.Reset && f.Path == g.Path && f.Count == g.Count
}

func piece(id, offset int, text string) api.Frame {
	return api.Frame{Kind: api.Stream, Stream: id, Offset: offset, Data: []byte(text), Length: true}
}

// last is a stream's last piece.
func last(id, offset int, text string) api.Frame {
	f := piece(id, offset, text)
	f.Fin = true
	return f
}

func resetOf(id, code, final int) api.Frame {
	return api.Frame{Kind: api.ResetStream, Stream: id, Code: code, Limit: final}
}

func stopOf(id, code int) api.Frame {
	return api.Frame{Kind: api.StopSending, Stream: id, Code: code}
}

func maxData(limit int) api.Frame { return api.Frame{Kind: api.MaxData, Limit: limit} }

func maxStreamData(id, limit int) api.Frame {
	return api.Frame{Kind: api.MaxStreamData, Stream: id, Limit: limit}
}

func maxStreams(uni bool, limit int) api.Frame {
	if uni {
		return api.Frame{Kind: api.MaxStreamsUni, Limit: limit}
	}
	return api.Frame{Kind: api.MaxStreamsBidi, Limit: limit}
}

func blockedOf(id, limit int) api.Frame {
	return api.Frame{Kind: api.StreamDataBlocked, Stream: id, Limit: limit}
}

// odd are numbers at the edges of what may be.
func odd() []int {
	return []int{math.MinInt, -top, -5, -4, -3, -2, -1, 0, 1, 2, 3, 4, 5, 6, 7, 1 << 32, 1<<60 - 1, 1 << 60, top - 3, top - 2, top - 1, top, top + 1, huge - 1, huge}
}

// kinds are all kinds of frames, and some that are none.
func kinds() []int {
	var all []int
	for kind := -2; kind < 0x40; kind++ {
		all = append(all, kind)
	}
	return append(all, math.MinInt, 1<<32|api.Stream, huge)
}

// The chapter's example.
func TestP21_1Example(t *testing.T) {
	l := streams.Limits{Data: 100, Local: 50, Remote: 50, Uni: 50, Bidis: 2, Unis: 1}
	s := begin(t, false, l, l)
	s.opens(false, 0, 4)
	s.opensNot(false)
	s.opens(true, 2)
	s.takes(piece(1, 0, "a"))
	s.accepts(1)
	s.refuses(piece(9, 0, "a"), api.StreamLimit, api.ErrLimit)
	s = begin(t, false, l, l)
	s.refuses(piece(0, 0, "a"), api.StreamState, api.ErrState)
	s.refuses(piece(2, 0, "a"), api.StreamState, api.ErrState)
	s.opens(true, 2)
	s.refuses(piece(2, 0, "a"), api.StreamState, api.ErrState)
}

// The errors' numbers and the codes', as the chapter has them.
func TestP21_1Numbers(t *testing.T) {
	s := begin(t, true, streams.Limits{}, streams.Limits{})
	_, e := s.Open(true)
	same(t, "ErrLimit", int(e), 31)
	_, e = s.Write(0, nil)
	same(t, "ErrNone", int(e), 15)
	same(t, "ErrArg", int(s.Reset(0, -1)), 2)
	same(t, "ErrKind", s.Take(api.Frame{Kind: api.Ping}).(api.Errno), 12)
	same(t, "a Close", *s.Take(piece(1, 0, "")).(*api.Close), api.Close{Code: 5, Kind: 8, Err: 32})
	same(t, "a Close", *s.Take(piece(0, 0, "")).(*api.Close), api.Close{Code: 4, Kind: 8, Err: 31})
	s = server(t)
	s.takes(last(0, 3, ""))
	same(t, "a Close", *s.Take(resetOf(0, 9, 4)).(*api.Close), api.Close{Code: 6, Kind: 4, Err: 33})
	same(t, "a Close", *s.Take(piece(4, 50, "a")).(*api.Close), api.Close{Code: 3, Kind: 8, Err: 30})
	s.opens(false, 1)
	s.takes(stopOf(1, 1))
	same(t, "ErrReset", int(s.Finish(1)), 34)
}

// Of a table that is nil, or that no call made, nothing is told, and nothing is done.
func TestP21_1None(t *testing.T) {
	var plain streams.Table
	for _, x := range []*streams.Table{nil, &plain, {}, new(streams.Table)} {
		s := side{t, x}
		for range 2 {
			for _, uni := range []bool{false, true} {
				id, e := s.Open(uni)
				same(t, "Open", id, 0)
				same(t, "Open's error", e, api.ErrNil)
			}
			s.accepts()
			s.readable()
			s.told(0, 0, 0, 0)
			for _, n := range odd() {
				noneOf(s, n)
			}
			for _, kind := range kinds() {
				f := api.Frame{Kind: kind, Limit: 9}
				same(t, "Take", s.Take(f), error(api.ErrNil))
				s.acked(f)
				s.lost(f)
			}
			s.quiet(wide)
		}
	}
}

func noneOf(s side, n int) {
	s.t.Helper()
	s.writesNot(n, api.ErrNil)
	s.readsNot(n, api.ErrNil)
	for _, code := range odd() {
		s.resets(n, code, api.ErrNil)
		s.stops(n, code, api.ErrNil)
	}
	s.code(n, -1)
	s.quiet(n)
}

// What becomes of one table is nothing to another.
func TestP21_1Apart(t *testing.T) {
	a, b := client(t), client(t)
	a.opens(false, 0)
	a.writes(0, "abc")
	a.takes(piece(1, 0, "abc"), maxStreams(true, 9), maxData(999))
	a.stops(1, 5, api.OK)
	b.accepts()
	b.told(0, 0, 100, 0)
	b.writesNot(0, api.ErrNone)
	b.readsNot(1, api.ErrNone)
	b.quiet(wide)
	b.opens(true, 2, 6)
	b.opensNot(true)
}
