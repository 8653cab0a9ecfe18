package streams_test

import (
	"errors"
	"fmt"
	"math"
	"testing"

	"caravel/api"
	"caravel/streams"
)

// whole tells all that can be told of a table, by calls that change it.
func (s side) whole() string {
	text := ""
	say := func(a ...any) { text += fmt.Sprintln(a...) }
	say(s.Told())
	say(s.Readable())
	for id, ok := s.Accept(); ok; id, ok = s.Accept() {
		say("accept", id)
	}
	for id := range 40 {
		code, ok := s.Code(id)
		say(code, ok)
		n, e := s.Write(id, []byte("abcdefgh"))
		say(n, int(e))
	}
	for f, ok := s.Next(40); ok; f, ok = s.Next(40) {
		say("next", f)
	}
	for id := range 40 {
		b, done, e := s.Read(id, 3)
		say("read", string(b), done, int(e))
	}
	for _, uni := range []bool{false, true} {
		for id, e := s.Open(uni); e == api.OK; id, e = s.Open(uni) {
			say("open", id)
		}
	}
	for id := range 40 { // how far each may reach
		n := 0
		for n < 200 && s.Take(api.Frame{Kind: api.Stream, Stream: id, Offset: n}) == nil {
			n++
		}
		say("reach", id, n)
	}
	for f, ok := s.Next(40); ok; f, ok = s.Next(40) {
		say("next", f)
	}
	say(s.Told())
	return text
}

// unchanged asks what a frame closes with, and that nothing has changed behind that: two tables that are made alike tell the same, if the one was given it, thrice, and the other not.
func unchanged(t *testing.T, made func() side, f api.Frame, code int, e api.Errno) {
	t.Helper()
	one, two := made(), made()
	for range 3 {
		if code > 0 {
			one.refuses(f, code, e)
		} else {
			same(t, "Take", one.Take(f), error(e))
		}
	}
	if a, b := one.whole(), two.whole(); a != b {
		t.Fatalf("%v has changed\n%s\nto\n%s", f, b, a)
	}
}

// Kinds of other layers: ErrKind, without a Close.
func TestP21_4Kinds(t *testing.T) {
	ours := map[int]bool{api.Stream: true, api.ResetStream: true, api.StopSending: true, api.MaxData: true, api.MaxStreamData: true, api.MaxStreamsBidi: true, api.MaxStreamsUni: true,
		api.DataBlocked: true, api.StreamDataBlocked: true, api.StreamsBlockBidi: true, api.StreamsBlockUni: true}
	count := 0
	for _, kind := range kinds() {
		f := api.Frame{Kind: kind, Limit: 1}
		if ours[kind] {
			count++
			if err := server(t).Take(f); err != nil {
				t.Error(kind, err)
			}
			continue
		}
		var end *api.Close
		if err := server(t).Take(f); err != api.ErrKind || errors.As(err, &end) || !errors.Is(err, api.ErrKind) {
			t.Error(kind, err)
		}
		unchanged(t, full(t), f, 0, api.ErrKind)
		f.Stream, f.Offset, f.Data, f.Fin, f.Limit = 99, -1, []byte("abc"), true, -1
		unchanged(t, full(t), f, 0, api.ErrKind)
	}
	same(t, "kinds", count, 11)
}

// full makes a server's table with streams in many states: 0 was read a little, 4 waits at 3, 8 is stopped, 2 has its end, 6 is reset, 10 and 14 are over, 1 is read to its end, 5 and 3 are written; 12 and 18 may come.
func full(t *testing.T) func() side {
	return func() side {
		l := streams.Limits{Data: 100, Local: 30, Remote: 20, Uni: 10, Bidis: 4, Unis: 5}
		s := begin(t, true, l, l)
		s.takes(piece(0, 0, "abcde"), piece(4, 3, "x"), piece(8, 0, "abc"), last(2, 0, "abcd"), resetOf(6, 5, 5), last(10, 0, "ab"), resetOf(14, 3, 4))
		s.opens(false, 1, 5)
		s.opens(true, 3)
		s.takes(last(1, 0, "abc"))
		s.reads(0, 2, "ab", false)
		s.reads(10, 9, "ab", true)
		s.readsNot(14, api.ErrReset)
		s.reads(1, 9, "abc", true)
		s.stops(8, 2, api.OK)
		s.writes(5, "hello")
		s.writes(3, "world")
		s.finishes(3, api.OK)
		s.next(40)
		return s
	}
}

// of tells a frame of a kind, about a stream, that is harmless but for the stream.
func of(kind, id int) api.Frame { return api.Frame{Kind: kind, Stream: id} }

// StreamState: the reading part that this side lacks, the writing part, and its own streams that were never opened.
func TestP21_4StreamState(t *testing.T) {
	reading := []int{api.Stream, api.ResetStream, api.StreamDataBlocked}
	writing := []int{api.StopSending, api.MaxStreamData}
	for _, kind := range reading {
		for _, id := range []int{3, 7, 1<<60 + 3, top, 9, 13, top - 2} { // own ones one way, opened or not; own ones both ways that were not
			unchanged(t, full(t), of(kind, id), api.StreamState, api.ErrState)
		}
		ends := map[int]int{1: 3, 2: 4}
		for _, id := range []int{1, 5, 0, 4, 8, 12, 2, 6, 10, 18} {
			limit, ok := ends[id]
			if !ok {
				limit = 5
			}
			full(t)().takes(api.Frame{Kind: kind, Stream: id, Offset: 3, Limit: limit})
		}
	}
	for _, kind := range writing {
		for _, id := range []int{2, 6, 10, 14, 18, 22, top - 1, 7, 11, 9, 13, top, top - 2} {
			unchanged(t, full(t), of(kind, id), api.StreamState, api.ErrState)
		}
		for _, id := range []int{1, 5, 3, 0, 4, 8, 12} {
			full(t)().takes(of(kind, id))
		}
	}
	for _, kind := range append(reading, writing...) {
		for _, id := range []int{-1, -2, -3, -4, -5, -8, math.MinInt, math.MinInt + 2} {
			unchanged(t, full(t), of(kind, id), api.StreamState, api.ErrState)
		}
	}
}

// Likewise of a client.
func TestP21_4StreamStateClient(t *testing.T) {
	made := func() side {
		s := client(t)
		s.opens(false, 0)
		s.opens(true, 2)
		return s
	}
	for _, kind := range []int{api.Stream, api.ResetStream, api.StreamDataBlocked} {
		for _, id := range []int{2, 6, 4} {
			unchanged(t, made, of(kind, id), api.StreamState, api.ErrState)
		}
		for _, id := range []int{0, 1, 3, 5, 7} {
			made().takes(of(kind, id))
		}
	}
	for _, kind := range []int{api.StopSending, api.MaxStreamData} {
		for _, id := range []int{3, 7, 4, 6} {
			unchanged(t, made, of(kind, id), api.StreamState, api.ErrState)
		}
		for _, id := range []int{0, 2, 1, 5} {
			made().takes(of(kind, id))
		}
	}
}

// StreamLimit: at the place that this side allowed, and one within.
func TestP21_4StreamLimit(t *testing.T) {
	for _, kind := range []int{api.Stream, api.ResetStream, api.StreamDataBlocked, api.StopSending, api.MaxStreamData} {
		full(t)().takes(of(kind, 12))
		for _, id := range []int{16, 20, 400, 1 << 50, top - 3} {
			unchanged(t, full(t), of(kind, id), api.StreamLimit, api.ErrLimit)
		}
		if kind != api.StopSending && kind != api.MaxStreamData {
			full(t)().takes(of(kind, 18))
			for _, id := range []int{22, 26, top - 1, math.MaxInt - 1} {
				unchanged(t, full(t), of(kind, id), api.StreamLimit, api.ErrLimit)
			}
		}
	}
	none := func() side { return begin(t, true, put(put(some(), 4, 0), 5, 0), some()) }
	unchanged(t, none, of(api.Stream, 0), api.StreamLimit, api.ErrLimit)
	unchanged(t, none, of(api.Stream, 2), api.StreamLimit, api.ErrLimit)
	most := begin(t, true, plenty(), plenty())
	most.refuses(of(api.Stream, 4096), api.StreamLimit, api.ErrLimit)
	most.takes(of(api.Stream, 4092))
	same(t, "streams", liveOf(most), 1024)
	most.refuses(of(api.Stream, 4098), api.StreamLimit, api.ErrLimit)
	most.takes(of(api.Stream, 4094))
	same(t, "streams", liveOf(most), 2048)
}

// FinalSize: another end, an end below what was reached, and bytes beyond the end.
func TestP21_4FinalSize(t *testing.T) {
	for _, f := range []api.Frame{ // 2 ends at 4, 6 was reset at 5, 0 reached 5, 8 (stopped) 3, 1 ended at 3 and was read
		piece(2, 4, "e"), piece(2, 0, "abcde"), last(2, 3, ""), last(2, 5, ""), last(2, 0, "abcde"), resetOf(2, 9, 3), resetOf(2, 9, 5), resetOf(2, 9, 0), piece(2, 5, ""), piece(2, 90, "a"),
		piece(6, 5, "e"), last(6, 4, ""), resetOf(6, 5, 4), resetOf(6, 5, 6), last(6, 6, ""),
		last(0, 4, ""), last(0, 0, "abcd"), resetOf(0, 1, 4), resetOf(0, 1, 0),
		last(8, 2, ""), last(8, 0, "ab"), resetOf(8, 1, 2),
		piece(1, 3, "x"), last(1, 2, ""), resetOf(1, 7, 2), resetOf(1, 7, 4),
		piece(2, top, ""), resetOf(2, 1, top), resetOf(2, 1, math.MaxInt), piece(2, math.MaxInt, "abc"),
	} {
		unchanged(t, full(t), f, api.FinalSize, api.ErrFinal)
	}
	for _, f := range []api.Frame{
		piece(2, 3, "d"), piece(2, 4, ""), last(2, 4, ""), last(2, 2, "cd"), resetOf(2, 9, 4),
		piece(6, 4, "e"), last(6, 5, ""), resetOf(6, 8, 5), last(6, 0, "abcde"),
		last(0, 5, ""), last(0, 4, "e"), resetOf(0, 1, 5), resetOf(0, 1, 6),
		last(8, 3, ""), last(8, 3, "d"), resetOf(8, 1, 3), resetOf(8, 1, 4),
		piece(1, 2, "c"), last(1, 3, ""), resetOf(1, 7, 3),
	} {
		full(t)().takes(f)
	}
}

// FlowControl: beyond the stream's own limit, and at it.
func TestP21_4FlowControlOne(t *testing.T) {
	for _, row := range []struct{ id, limit int }{
		{12, 20}, {18, 10}, {5, 30}, {4, 20}, // at first: of the peer's both ways, one way, of this side's
		{0, 22}, // of which 2 were read
		{8, 20}, // that is stopped: nobody reads it
	} {
		for _, f := range []api.Frame{piece(row.id, row.limit, "a"), piece(row.id, row.limit+1, ""), last(row.id, row.limit+1, ""), resetOf(row.id, 1, row.limit+1),
			piece(row.id, top, ""), piece(row.id, top-1, "a"), resetOf(row.id, 1, top)} {
			unchanged(t, full(t), f, api.FlowControl, api.ErrFlow)
		}
		for _, f := range []api.Frame{piece(row.id, row.limit-1, "a"), piece(row.id, row.limit, ""), last(row.id, row.limit, ""), last(row.id, row.limit-3, "abc"), resetOf(row.id, 1, row.limit)} {
			full(t)().takes(f)
		}
	}
}

// FlowControl: what came of all streams, of each how far it reached; at the limit and beyond.
func TestP21_4FlowControlAll(t *testing.T) {
	made := func() side {
		s := begin(t, true, put(plenty(), 0, 20), some())
		s.takes(piece(0, 4, "a"), last(2, 0, "abc"), resetOf(6, 1, 7)) // 5, 3 and 7
		return s
	}
	made().told(4, 15, 20, 3)
	for _, f := range []api.Frame{piece(4, 5, ""), piece(4, 4, "a"), last(4, 5, ""), piece(0, 10, ""), piece(0, 5, "abcde"), piece(0, 9, "a"), last(0, 10, "")} {
		s := made()
		s.takes(f)
		_, came, limit, _ := s.Told()
		same(t, "came", came, 20)
		same(t, "limit", limit, 20)
		s.takes(f, piece(10, 0, ""), piece(0, 2, "ab"))
		s.refuses(piece(10, 0, "a"), api.FlowControl, api.ErrFlow)
	}
	for _, f := range []api.Frame{resetOf(4, 1, 5), resetOf(0, 1, 10)} { // what is reset is nobody's any more, and lets more come
		s := made()
		s.takes(f)
		_, came, limit, _ := s.Told()
		same(t, "came", came, 20)
		same(t, "more", limit > 20, true)
	}
	for _, f := range []api.Frame{piece(4, 6, ""), piece(4, 5, "a"), last(4, 6, ""), resetOf(4, 1, 6), piece(0, 11, ""), piece(0, 0, "abcdefghijk"), last(0, 11, ""), resetOf(0, 1, 11),
		piece(12, 6, ""), piece(14, 0, "abcdef"), resetOf(14, 1, 6), piece(4, top, ""), resetOf(4, 1, top)} {
		unchanged(t, made, f, api.FlowControl, api.ErrFlow)
	}
}

// Where several apply the first is told: StreamState, StreamLimit, FinalSize, FlowControl.
func TestP21_4First(t *testing.T) {
	made := func() side { // 0 ends at 4 of 10; 5 of 10 have come of all
		l := streams.Limits{Data: 10, Local: 9, Remote: 9, Uni: 9, Bidis: 2, Unis: 2}
		s := begin(t, true, l, l)
		s.takes(last(0, 4, ""), piece(4, 1, ""))
		return s
	}
	for _, row := range []struct {
		f    api.Frame
		code int
		e    api.Errno
	}{
		{last(top, 99, "a"), api.StreamState, api.ErrState},
		{resetOf(3, -1, 99), api.StreamState, api.ErrState},
		{stopOf(6, -1), api.StreamState, api.ErrState},
		{stopOf(90, -1), api.StreamState, api.ErrState}, // no writing part, and beyond the limit
		{last(9, 0, "abcdefghijkl"), api.StreamState, api.ErrState},
		{piece(8, 99, "a"), api.StreamLimit, api.ErrLimit},
		{piece(10, -1, "a"), api.StreamLimit, api.ErrLimit},
		{resetOf(8, -1, 99), api.StreamLimit, api.ErrLimit},
		{stopOf(8, -1), api.StreamLimit, api.ErrLimit},
		{maxStreamData(8, -1), api.StreamLimit, api.ErrLimit},
		{piece(0, 9, "a"), api.FinalSize, api.ErrFinal},  // beyond 9 of the stream, too
		{piece(0, 10, "a"), api.FinalSize, api.ErrFinal}, // and beyond 10 of all
		{resetOf(0, 1, 11), api.FinalSize, api.ErrFinal},
		{last(0, 99, ""), api.FinalSize, api.ErrFinal},
		{last(4, 0, ""), api.FinalSize, api.ErrFinal},
		{piece(4, 9, "a"), api.FlowControl, api.ErrFlow},
		{piece(4, 7, ""), api.FlowControl, api.ErrFlow}, // within 9 of the stream, beyond 10 of all
	} {
		unchanged(t, made, row.f, row.code, row.e)
	}
}

// A place below 0 is nobody's: an argument's own error, as inbox tells it, behind those of the stream's number.
func TestP21_4Below(t *testing.T) {
	for _, n := range []int{-1, -7, math.MinInt} {
		for _, id := range []int{0, 2, 12, 18, 1} {
			unchanged(t, full(t), piece(id, n, ""), 0, api.ErrArg)
			unchanged(t, full(t), piece(id, n, "abc"), 0, api.ErrArg)
			unchanged(t, full(t), last(id, n, "abc"), 0, api.ErrArg)
			unchanged(t, full(t), resetOf(id, 1, n), 0, api.ErrArg)
		}
		full(t)().takes(piece(10, n, "a"), resetOf(10, 1, n)) // it is over
	}
}

// Of a stream that is over nothing more is looked at, but for its number's part.
func TestP21_4Over(t *testing.T) {
	for _, id := range []int{10, 14} {
		for _, f := range []api.Frame{piece(id, 0, "xy"), piece(id, 90, "a"), last(id, 1, ""), resetOf(id, 44, 99), resetOf(id, 44, 0), blockedOf(id, 9), piece(id, top, "abc")} {
			one, two := full(t)(), full(t)()
			one.takes(f, f)
			same(t, "the whole", one.whole(), two.whole())
		}
		unchanged(t, full(t), stopOf(id, 1), api.StreamState, api.ErrState)
	}
	s := client(t)
	s.opens(false, 0)
	s.opens(true, 2)
	ends(s, 0)
	ends(s, 2)
	s.takes(piece(0, 77, "abc"), resetOf(0, 1, 9), stopOf(0, 5), stopOf(2, 5), maxStreamData(0, 9), maxStreamData(2, 9), blockedOf(0, 1))
	s.told(0, 0, 100, 0)
	s.code(0, -1)
	s.code(2, -1)
	s.readable()
	s.quiet(wide)
	s.refuses(piece(2, 0, ""), api.StreamState, api.ErrState)
}

// MaxData raises what all streams may send together, and never lowers it.
func TestP21_4MaxData(t *testing.T) {
	s := begin(t, false, some(), put(some(), 0, 4))
	s.opens(false, 0, 4)
	s.writes(0, "abcdef")
	s.writes(4, "uvwxyz")
	s.tells(piece(0, 0, "abcd"))
	s.takes(maxData(4), maxData(0), maxData(-1), maxData(math.MinInt))
	s.quiet(wide)
	s.takes(maxData(7))
	s.tells(piece(4, 0, "uvw"))
	s.takes(maxData(5), maxData(7))
	s.quiet(wide)
	s.takes(maxData(math.MaxInt), maxData(top))
	s.tells(piece(0, 4, "ef"), piece(4, 3, "xyz"))
}

// MaxStreamData raises what one stream may send, and never lowers it.
func TestP21_4MaxStreamData(t *testing.T) {
	s := begin(t, false, some(), put(put(plenty(), 2, 4), 3, 2))
	s.opens(false, 0, 4)
	s.opens(true, 2)
	for _, id := range []int{0, 2, 4} {
		s.writes(id, "abcdef")
	}
	s.tells(piece(0, 0, "abcd"), piece(2, 0, "ab"), piece(4, 0, "abcd"))
	s.takes(maxStreamData(0, 4), maxStreamData(0, 3), maxStreamData(0, -1), maxStreamData(2, 2))
	s.quiet(wide)
	s.takes(maxStreamData(0, 5))
	s.tells(piece(0, 4, "e"))
	s.takes(maxStreamData(0, 4), maxStreamData(2, math.MaxInt))
	s.tells(piece(2, 2, "cdef"))
	s.takes(maxStreamData(4, 6), maxStreamData(0, top))
	s.tells(piece(4, 4, "ef"), piece(0, 5, "f"))
}

// The four of blocked sides change nothing; that of a stream opens it.
func TestP21_4Blocked(t *testing.T) {
	for _, kind := range []int{api.DataBlocked, api.StreamsBlockBidi, api.StreamsBlockUni, api.StreamDataBlocked} {
		for _, limit := range odd() {
			one, two := full(t)(), full(t)()
			one.takes(api.Frame{Kind: kind, Stream: 4, Limit: limit})
			same(t, "the whole", one.whole(), two.whole())
		}
	}
	full(t)().takes(api.Frame{Kind: api.DataBlocked, Stream: -1}, api.Frame{Kind: api.StreamsBlockUni, Stream: 9, Offset: -1})
	s := server(t)
	s.takes(blockedOf(4, 50))
	s.told(0, 0, 100, 2)
}

// Fields that a kind does not have are not looked at.
func TestP21_4Fields(t *testing.T) {
	s := server(t)
	s.takes(api.Frame{Kind: api.Stream, Data: []byte("ab"), Limit: -1, Code: -1, Acks: []api.Span{{First: 3}}})
	s.takes(api.Frame{Kind: api.ResetStream, Stream: 4, Code: 1, Limit: 2, Offset: -1, Data: []byte("abcdef")})
	s.takes(api.Frame{Kind: api.StopSending, Code: 3, Limit: -1, Offset: -1, Fin: true})
	s.takes(api.Frame{Kind: api.MaxData, Stream: -1, Limit: 400, Code: -1})
	s.takes(api.Frame{Kind: api.MaxStreamData, Limit: 400, Code: -1, Offset: -1, Data: []byte("a")})
	s.told(2, 4, 100, 2)
	s.reads(0, 9, "ab", false)
	s.code(0, 3)
	s.code(4, 1)
}

// A StopSending resets the writing with its code, as by Reset, once, unless it is over.
func TestP21_4StopSending(t *testing.T) {
	for sent := range 4 {
		s := client(t)
		s.opens(true, 2)
		s.writes(2, "abc")
		for at := range sent {
			s.next(5 - max(1-at, 0))
		}
		s.takes(stopOf(2, 7), stopOf(2, 8))
		s.tells(resetOf(2, 7, sent))
		s.lost(piece(2, 0, "abc"[:sent]))
		s.lost(resetOf(2, 7, sent))
		s.takes(stopOf(2, 9))
		s.acked(s.tells(resetOf(2, 7, sent))...)
		s.told(0, 0, 100, 0)
	}
	s := client(t)
	s.opens(false, 0)
	s.writes(0, "abc")
	s.finishes(0, api.OK)
	on := s.tells(last(0, 0, "abc"))
	s.takes(stopOf(0, 7))
	s.tells(resetOf(0, 7, 3))
	s.acked(on...) // all arrived: the reset is not needed
	s.lost(resetOf(0, 7, 3))
	s.takes(stopOf(0, 8))
	s.quiet(wide)
	s.code(0, 7)
	s = client(t)
	s.opens(false, 0)
	ends := func() {
		s.finishes(0, api.OK)
		s.acked(s.tells(last(0, 0, ""))...)
	}
	ends()
	s.takes(stopOf(0, 7)) // its writing part is over
	s.quiet(wide)
	s.code(0, -1)
}

// One piece after the other up to what is allowed of all: just that comes.
func TestP21_4Fills(t *testing.T) {
	for data := range 12 {
		l := streams.Limits{Data: data, Local: 4, Remote: 4, Uni: 4, Bidis: 2, Unis: 2}
		s := begin(t, true, l, l)
		came := 0
		for at := range 6 {
			for _, id := range []int{0, 2, 4, 6} {
				f := piece(id, at, "a")
				if at < 4 && came < data {
					s.takes(f)
					came++
					_, n, limit, _ := s.Told()
					same(t, "came", n, came)
					same(t, "limit", limit, data)
				} else {
					s.refuses(f, api.FlowControl, api.ErrFlow)
				}
			}
		}
	}
}
