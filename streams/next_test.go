package streams_test

import (
	"math"
	"slices"
	"strings"
	"testing"

	"caravel/api"
	"caravel/frame"
	"caravel/streams"
)

// size tells how many bytes frame.Put puts a frame into.
func size(t *testing.T, f api.Frame) int {
	b, e := frame.Put(f)
	if e != api.OK {
		t.Helper()
		t.Fatal(f, int(e))
	}
	return len(b)
}

// Where there is nothing to be told, and where there is no room.
func TestP21_5Nothing(t *testing.T) {
	s := client(t)
	for _, room := range odd() {
		s.quiet(room)
	}
	s.opens(false, 0)
	s.writes(0, "")
	s.quiet(wide)
	s.writes(0, "abc")
	for _, room := range []int{math.MinInt, -100, -1, 0, 1, 2, 3} {
		s.quiet(room)
	}
	s.tells(piece(0, 0, "abc"))
	s.resets(0, 5, api.OK)
	for _, room := range []int{math.MinInt, -1, 0, 1, 2, 3} {
		s.quiet(room)
	}
	same(t, "Next", alike(s.next(4), resetOf(0, 5, 3)), true)
}

// due makes a table with one thing to be told, that is told at just enough room, and not with one byte less.
func TestP21_5JustEnough(t *testing.T) {
	text := strings.Repeat("0123456789abcdef", 64)
	for _, row := range []struct {
		made func() side
		want api.Frame
	}{
		{func() side { s := client(t); s.opens(false, 0); s.writes(0, "a"); return s }, piece(0, 0, "a")},
		{func() side { s := client(t); s.opens(false, 0); s.finishes(0, 0); return s }, last(0, 0, "")},
		{func() side { s := client(t); s.opens(false, 0); s.resets(0, 99, 0); return s }, resetOf(0, 99, 0)},
		{func() side { s := client(t); s.opens(false, 0); s.resets(0, top, 0); return s }, resetOf(0, top, 0)},
		{func() side { s := client(t); s.opens(false, 0); s.stops(0, 64, 0); return s }, stopOf(0, 64)},
		{func() side {
			s := begin(t, true, put(plenty(), 0, 100), plenty())
			s.takes(piece(0, 0, text[:60]))
			s.reads(0, 99, text[:60], false)
			return s
		}, maxData(160)},
		{func() side {
			s := begin(t, true, put(plenty(), 3, 100), plenty())
			s.takes(piece(14, 0, text[:60]))
			s.reads(14, 99, text[:60], false)
			return s
		}, maxStreamData(14, 160)},
		{func() side {
			s := begin(t, true, put(plenty(), 5, 1), plenty())
			s.takes(last(2, 0, ""))
			s.reads(2, 99, "", true)
			return s
		}, maxStreams(true, 2)},
	} {
		n := size(t, row.want)
		for room := range n {
			row.made().quiet(room)
		}
		for _, room := range []int{n, n + 1, 1 << 20, math.MaxInt} {
			s := row.made()
			if f := s.next(room); !alike(f, row.want) {
				t.Fatalf("Next(%d) = %v, not %v", room, f, row.want)
			}
			s.quiet(wide)
		}
	}
}

// A Stream frame has as many bytes as fit, at each room; the length's own bytes count.
func TestP21_5Fills(t *testing.T) {
	text := strings.Repeat("0123456789abcdef", 4096)
	for _, id := range []int{0, 4 * 100} {
		for _, ahead := range []int{0, 1, 63, 64, 16383, 16384} {
			for _, room := range []int{4, 5, 6, 7, 8, 9, 50, 63, 64, 65, 66, 67, 68, 69, 70, 71, 72, 73, 74, 75, 1200, 16380, 16384, 16386, 16388, 16390, 16391, 16392, 16393, 16394} {
				s := begin(t, false, plenty(), plenty())
				for range id/4 + 1 {
					s.Open(false)
				}
				s.writes(id, text)
				for at := 0; at < ahead; {
					f := s.next(size(t, piece(id, at, text[at:ahead])))
					at += len(f.Data)
				}
				n := max(0, room-20) // how many bytes fit: what stands ahead of them has never 20
				for n < 65536-ahead && size(t, piece(id, ahead, text[ahead:ahead+n+1])) <= room {
					n++
				}
				if n == 0 {
					s.quiet(room)
					continue
				}
				if f := s.next(room); !alike(f, piece(id, ahead, text[ahead:ahead+n])) {
					t.Fatalf("Next(%d) at %d has %d bytes, not %d", room, ahead, len(f.Data), n)
				}
			}
		}
	}
}

// All that is kept goes in one frame, if there is room.
func TestP21_5Whole(t *testing.T) {
	text := strings.Repeat("x", 65536)
	s := begin(t, false, plenty(), plenty())
	s.opens(false, 0)
	s.writes(0, text)
	s.finishes(0, api.OK)
	s.lost(s.tells(last(0, 0, text))...)
	n := size(t, last(0, 0, text))
	f := s.next(n - 1)
	same(t, "bytes", len(f.Data), 65535)
	s.tells(last(0, 65535, "x"))
}

// A piece that does not fit does not hold up others that do.
func TestP21_5OthersFit(t *testing.T) {
	s := begin(t, false, plenty(), plenty())
	for range 70 {
		s.Open(false)
	}
	s.writes(0, "ab")
	s.writes(4*64, "ab") // its number has two bytes
	s.resets(4*65, top, api.OK)
	s.stops(4, top, api.OK)
	s.stops(8, 1, api.OK)
	s.quiet(2)
	same(t, "a stop", alike(s.next(3), stopOf(8, 1)), true) // the reset, and the other stop, need more
	s.quiet(3)
	same(t, "a piece", alike(s.next(4), piece(0, 0, "a")), true)
	s.quiet(4)
	same(t, "a piece", alike(s.next(5), piece(4*64, 0, "a")), true)
	same(t, "a piece", alike(s.next(5), piece(0, 1, "b")), true)
	s.tells(resetOf(4*65, top, 0), stopOf(4, top), piece(4*64, 1, "b"))
}

// Limits, resets and stops come ahead of Stream frames, in this order.
func TestP21_5Order(t *testing.T) {
	l := streams.Limits{Data: 10, Local: 10, Remote: 6, Uni: 2, Bidis: 2, Unis: 1}
	s := begin(t, true, l, plenty())
	s.opens(false, 1, 5, 9)
	s.writes(5, "later")
	s.stops(9, 7, api.OK)
	s.stops(5, 8, api.OK)
	s.resets(9, 6, api.OK)
	s.resets(1, 5, api.OK)
	s.takes(piece(0, 0, "abcd"), last(2, 0, "ab"), last(4, 0, ""))
	s.reads(0, 9, "abcd", false)
	s.reads(2, 9, "ab", true)
	s.finishes(4, api.OK)
	s.reads(4, 9, "", true)
	var ranks []int
	all := s.drain()
	for _, f := range all {
		switch f.Kind {
		case api.Stream:
			ranks = append(ranks, 3)
			same(t, "Length", f.Length, true)
		case api.StopSending:
			ranks = append(ranks, 2)
		case api.ResetStream:
			ranks = append(ranks, 1)
		default:
			ranks = append(ranks, 0)
		}
	}
	if !slices.Equal(ranks, []int{0, 0, 0, 1, 1, 2, 2, 3, 3}) {
		t.Fatal(ranks, all)
	}
	s.acked(last(4, 0, ""))
	if f := s.next(wide); !alike(f, maxStreams(false, 3)) {
		t.Fatal(f)
	}
	s.lost(all...)
	again := s.drain()
	same(t, "frames", len(again), len(all)-1) // all but what arrived
	for i, f := range again[:7] {
		if !alike(f, all[i]) {
			t.Fatal(f, all[i])
		}
	}
	same(t, "the bytes", alike(again[7], piece(5, 0, "later")), true)
}

// A notice that comes up later goes ahead of bytes that waited before.
func TestP21_5Ahead(t *testing.T) {
	s := client(t)
	s.opens(false, 0, 4)
	s.writes(0, "abcdef")
	s.next(5)
	s.stops(4, 1, api.OK)
	same(t, "a stop", s.next(5).Kind, api.StopSending)
	s.next(5)
	s.resets(4, 1, api.OK)
	same(t, "a reset", s.next(5).Kind, api.ResetStream)
	s.lost(stopOf(4, 1))
	same(t, "a stop", s.next(5).Kind, api.StopSending)
	same(t, "bytes", s.next(5).Kind, api.Stream)
}

// No byte goes beyond the stream's limit, which are of each kind what the peer allows.
func TestP21_5StreamLimits(t *testing.T) {
	peer := streams.Limits{Data: 1000, Local: 3, Remote: 5, Uni: 7, Bidis: 9, Unis: 9}
	s := begin(t, false, some(), peer)
	s.opens(false, 0)
	s.opens(true, 2)
	s.takes(piece(1, 0, ""))
	for _, id := range []int{0, 1, 2} {
		s.writes(id, "abcdefghijk")
		s.finishes(id, api.OK)
	}
	s.tells(piece(0, 0, "abcde"), piece(1, 0, "abc"), piece(2, 0, "abcdefg"))
	s.takes(maxStreamData(1, 11))
	s.tells(last(1, 3, "defghijk"))
	s.takes(maxStreamData(0, 10), maxStreamData(2, 11))
	s.tells(last(2, 7, "hijk"), piece(0, 5, "fghij"))
	s.takes(maxStreamData(0, 11))
	s.tells(last(0, 10, "k"))
}

// With a limit of 0 the end alone goes, if there is nothing ahead of it.
func TestP21_5NoLimit(t *testing.T) {
	for _, peer := range []streams.Limits{{Bidis: 2, Unis: 2}, {Data: 9, Bidis: 2, Unis: 2}, {Remote: 9, Uni: 9, Bidis: 2, Unis: 2}} {
		s := begin(t, false, some(), peer)
		s.opens(false, 0, 4)
		s.writes(0, "a")
		s.finishes(0, api.OK)
		s.quiet(wide)
		s.finishes(4, api.OK)
		s.tells(last(4, 0, ""))
		s.resets(4, 1, api.ErrState)
	}
}

// No byte goes beyond the limit of all streams; what is sent again does not count again.
func TestP21_5AllLimit(t *testing.T) {
	s := begin(t, false, some(), put(plenty(), 0, 7))
	s.opens(false, 0, 4)
	s.opens(true, 2)
	s.writes(0, "abcd")
	s.writes(2, "ABCD")
	s.writes(4, "0123")
	s.finishes(4, api.OK)
	on := s.tells(piece(0, 0, "abcd"), piece(2, 0, "ABC"))
	s.lost(on...)
	s.tells(piece(0, 0, "abcd"), piece(2, 0, "ABC"))
	s.lost(on...)
	s.acked(on[0])
	s.tells(piece(2, 0, "ABC"))
	s.takes(maxData(9))
	s.tells(piece(4, 0, "01"))
	s.takes(maxData(11))
	s.lost(piece(4, 0, "01"))
	f := s.tells(piece(2, 3, "D"), piece(4, 0, "01"), piece(4, 2, "2"))
	s.lost(f[0])
	s.resets(4, 1, api.ErrState)
	s.tells(f[0])
	s.takes(maxData(12))
	s.tells(last(4, 3, "3"))
}

// What a reset gives up was not spent, and what it sent stays so.
func TestP21_5AllLimitReset(t *testing.T) {
	s := begin(t, false, some(), put(plenty(), 0, 5))
	s.opens(false, 0, 4)
	s.writes(0, "abcdef")
	same(t, "a piece", alike(s.next(6), piece(0, 0, "abc")), true)
	s.resets(0, 1, api.OK)
	s.writes(4, "012345")
	s.tells(resetOf(0, 1, 3), piece(4, 0, "01"))
	s.acked(resetOf(0, 1, 3), piece(4, 0, "01"))
	s.quiet(wide)
	s.takes(maxData(6))
	s.tells(piece(4, 2, "2"))
}

// Streams take turns: a long one does not hold up the others.
func TestP21_5Turns(t *testing.T) {
	s := begin(t, false, plenty(), plenty())
	s.opens(false, 0, 4, 8)
	s.opens(true, 2)
	count := map[int]int{}
	for _, id := range []int{0, 2, 4} {
		s.writes(id, strings.Repeat("x", 1000))
	}
	for n := range 30 {
		f := s.next(40)
		count[f.Stream]++
		if n%3 == 2 && (count[0] != n/3+1 || count[2] != n/3+1 || count[4] != n/3+1) {
			t.Fatal(count)
		}
	}
	s.writes(8, "late")
	for range 3 {
		if f := s.next(40); f.Stream == 8 {
			return
		}
	}
	t.Fatal("stream 8 has no turn")
}

// What is told lost of a stream is sent again, what has arrived is not.
func TestP21_5LostBytes(t *testing.T) {
	s := client(t)
	s.opens(true, 2)
	s.writes(2, "abcdefghi")
	s.finishes(2, api.OK)
	a, b, c := s.next(7), s.next(7), s.next(wide)
	same(t, "pieces", string(a.Data)+"|"+string(b.Data)+"|"+string(c.Data), "abcd|efg|hi")
	s.quiet(wide)
	s.lost(b)
	s.lost(b)
	s.tells(b)
	s.lost(b, c)
	s.acked(b)
	s.tells(c)
	s.lost(a, b, c)
	s.acked(a)
	s.lost(a)
	s.tells(c)
	s.lost(a)
	s.quiet(wide)
	s.acked(c)
	s.told(0, 0, 100, 0)
	s.lost(a, b, c)
	s.acked(a, b, c)
	s.quiet(wide)
}

// Each kind of notice: lost it is told again, arrived it is not, and the newest counts alone.
func TestP21_5LostNotices(t *testing.T) {
	l := streams.Limits{Data: 8, Local: 8, Remote: 8, Uni: 8, Bidis: 2, Unis: 1}
	s := begin(t, true, l, plenty())
	s.opens(false, 1)
	s.takes(piece(0, 0, "abcdef"), last(2, 0, ""), last(4, 0, ""))
	s.reads(0, 9, "abcdef", false)
	s.reads(2, 9, "", true)
	s.reads(4, 9, "", true)
	s.resets(4, 9, api.OK)
	s.resets(1, 5, api.OK)
	s.stops(1, 6, api.OK)
	first := []api.Frame{maxData(14), maxStreamData(0, 14), maxStreams(true, 2), resetOf(1, 5, 0), resetOf(4, 9, 0), stopOf(1, 6)}
	all := s.drain()
	slices.SortFunc(all, func(f, g api.Frame) int { return rank(f) - rank(g) })
	for i, f := range all {
		if !alike(f, first[i]) {
			t.Fatal(f, first[i])
		}
	}
	for _, f := range first {
		for range 2 {
			s.lost(f)
			s.lost(f)
			s.tells(f)
		}
	}
	for _, f := range first[:4] {
		s.lost(f)
		s.acked(f) // it came after all
		s.quiet(wide)
		s.lost(f)
		s.quiet(wide)
	}
	s.lost(first[5])
	s.takes(resetOf(1, 1, 0)) // its end is known: the stop is not needed any more
	s.quiet(wide)
	s.acked(first[4])
	s.tells(maxStreams(false, 3))
	s.lost(first[4])
	s.quiet(wide)
}

// rank is an order of frames by which tests sort them.
func rank(f api.Frame) int {
	order := []int{api.MaxData, api.MaxStreamData, api.MaxStreamsBidi, api.MaxStreamsUni, api.ResetStream, api.StopSending, api.Stream}
	return slices.Index(order, f.Kind)*10000 + f.Stream
}

// Of a limit the newest alone is told, and what is said of earlier ones is not meant.
func TestP21_5Newest(t *testing.T) {
	l := streams.Limits{Data: 8, Local: 8, Remote: 8, Uni: 8, Bidis: 2, Unis: 1}
	s := begin(t, true, l, plenty())
	s.takes(piece(0, 0, "abcd"))
	s.reads(0, 9, "abcd", false)
	old := s.tells(maxData(12), maxStreamData(0, 12))
	s.takes(piece(0, 4, "abcd"))
	s.reads(0, 9, "abcd", false)
	s.acked(old...)
	newer := s.tells(maxData(16), maxStreamData(0, 16))
	s.lost(old...)
	s.quiet(wide)
	s.acked(old...)
	s.lost(newer...)
	s.acked(old...)
	s.tells(newer...)
	s.takes(piece(0, 8, "abcd"))
	s.reads(0, 9, "abcd", false)
	s.lost(newer...)
	s.tells(maxData(20), maxStreamData(0, 20))
	s.acked(newer...)
	s.acked(maxData(20))
	s.lost(maxData(20), maxStreamData(0, 20))
	s.tells(maxStreamData(0, 20))
}

// A limit of a stream is not needed any more when its end is known, when it is stopped, or over.
func TestP21_5NotNeeded(t *testing.T) {
	for _, end := range []func(s side){
		func(s side) { s.takes(last(0, 30, "")) },
		func(s side) { s.takes(resetOf(0, 1, 30)) },
		func(s side) { s.stops(0, 1, api.OK); s.tells(stopOf(0, 1)) },
	} {
		for _, told := range []bool{false, true} {
			s := begin(t, true, put(plenty(), 2, 40), plenty())
			s.takes(piece(0, 0, strings.Repeat("x", 30)))
			s.reads(0, 99, strings.Repeat("x", 30), false)
			if told {
				s.tells(maxStreamData(0, 70))
			}
			end(s)
			s.quiet(wide)
			s.lost(maxStreamData(0, 70))
			s.quiet(wide)
		}
	}
	s := begin(t, true, put(plenty(), 2, 40), plenty())
	s.takes(last(0, 0, strings.Repeat("x", 40)))
	s.reads(0, 99, strings.Repeat("x", 40), true)
	s.quiet(wide) // what has its end needs no more
}

// A stop is not told again when the end is known; but once it is told.
func TestP21_5StopNotNeeded(t *testing.T) {
	for _, end := range []api.Frame{last(0, 2, ""), last(0, 0, "ab"), resetOf(0, 9, 2)} {
		s := server(t)
		s.takes(piece(0, 0, "ab"))
		s.stops(0, 1, api.OK)
		s.takes(end)
		s.lost(s.tells(stopOf(0, 1))...)
		s.quiet(wide)
		s = server(t)
		s.takes(piece(0, 0, "ab"))
		s.stops(0, 1, api.OK)
		s.lost(s.tells(stopOf(0, 1))...)
		s.takes(end)
		s.quiet(wide)
		s.acked(stopOf(0, 1))
		s.quiet(wide)
	}
}

// Frames that were never told: nothing comes of them.
func TestP21_5NeverTold(t *testing.T) {
	made := func() side {
		s := full(t)()
		s.resets(1, 4, api.OK)
		s.writes(0, "zz")
		s.finishes(4, api.OK)
		return s
	}
	for id := -2; id < 24; id++ {
		for _, f := range []api.Frame{
			piece(id, -1, "a"), piece(id, 6, "a"), piece(id, 7, ""), piece(id, top, "abc"), piece(id, math.MaxInt, "abc"), piece(id, math.MinInt, ""), last(id, 0, ""), last(id, 0, "zz"), last(id, 1, "z"), last(id, 2, ""),
			resetOf(id, 4, 0), resetOf(id, 4, 1), resetOf(id, 5, 0), stopOf(id, 2), stopOf(id, 3), maxStreamData(id, 0), maxStreamData(id, 50), maxData(100), maxData(id),
			maxStreams(false, 4), maxStreams(true, 5), maxStreams(true, id), of(api.StreamDataBlocked, id), of(api.DataBlocked, id), of(api.Ping, id), of(9, id), of(api.Ack, id), of(-1, id),
		} {
			one, two, three := made(), made(), made()
			one.Acked(f)
			one.Lost(f)
			two.Lost(f)
			two.Acked(f)
			want := three.whole()
			same(t, "the whole", one.whole(), want)
			same(t, "the whole", two.whole(), want)
		}
	}
}

// The end is not told, though the bytes are: that it arrived, or was lost, is not meant.
func TestP21_5EndNotTold(t *testing.T) {
	s := client(t)
	s.opens(true, 2)
	s.writes(2, "abc")
	s.tells(piece(2, 0, "abc"))
	s.lost(piece(2, 0, "abc"))
	s.finishes(2, api.OK)
	s.acked(last(2, 0, "abc"), last(2, 3, ""))
	s.told(0, 0, 100, 1)
	same(t, "a piece", alike(s.next(5), piece(2, 0, "ab")), true)
	s.acked(last(2, 3, ""))
	s.told(0, 0, 100, 1)
	s.tells(last(2, 2, "c"))
	s.acked(last(2, 2, "c"))
	s.told(0, 0, 100, 1)
	s.acked(piece(2, 0, "ab"))
	s.told(0, 0, 100, 0)
}

// Each notice has just its fields, and what Stream frames carry is new memory.
func TestP21_5Fields(t *testing.T) {
	s := full(t)()
	s.resets(0, 3, api.OK)
	for _, f := range s.drain() {
		var bare api.Frame
		switch f.Kind {
		case api.Stream:
			bare = api.Frame{Kind: f.Kind, Stream: f.Stream, Offset: f.Offset, Data: f.Data, Fin: f.Fin, Length: true}
		case api.ResetStream:
			bare = resetOf(f.Stream, f.Code, f.Limit)
		case api.StopSending:
			bare = stopOf(f.Stream, f.Code)
		case api.MaxStreamData:
			bare = maxStreamData(f.Stream, f.Limit)
		default:
			bare = api.Frame{Kind: f.Kind, Limit: f.Limit}
		}
		if !alike(f, bare) {
			t.Error(f)
		}
	}
}

// What this side allows of all streams grows as what came is read, or given up: at half a window.
func TestP21_5GrowsData(t *testing.T) {
	for window := 1; window < 12; window++ {
		s := begin(t, true, put(plenty(), 0, window), plenty())
		limit, came, used := window, 0, 0
		for range 60 {
			for came < limit {
				s.takes(piece(came%3*4, came/3, "x"))
				came++
			}
			s.refuses(piece(12, 0, "x"), api.FlowControl, api.ErrFlow)
			s.reads(used%3*4, 1, "x", false)
			used++
			if 2*(used+window-limit) >= window {
				limit = used + window
				s.tells(maxData(limit))
			}
			s.quiet(wide)
			s.told(came-used, came, limit, min(came, 3))
		}
	}
}

// A window of 0 never grows.
func TestP21_5GrowsNever(t *testing.T) {
	s := begin(t, true, put(some(), 0, 0), some())
	s.takes(last(0, 0, ""), resetOf(2, 0, 0))
	s.reads(0, 9, "", true)
	s.readsNot(2, api.ErrReset)
	s.refuses(piece(4, 0, "x"), api.FlowControl, api.ErrFlow)
	s.tells(maxStreams(true, 3))
	s.told(0, 0, 0, 1)
}

// What it allows of one stream grows as it is read.
func TestP21_5GrowsStream(t *testing.T) {
	for window := 1; window < 12; window++ {
		for row, id := range []int{0, 2, 1} { // whose limits are Remote, Uni, Local
			own := put(put(put(plenty(), 2, 0), 3, 0), 1, 0)
			s := begin(t, true, put(own, []int{2, 3, 1}[row], window), plenty())
			s.opens(false, 1)
			told, came := window, 0
			for used := range 40 {
				for came < used+window {
					s.takes(piece(id, came, "x"))
					came++
				}
				s.refuses(piece(id, came, "x"), api.FlowControl, api.ErrFlow)
				s.reads(id, 1, "x", false)
				if 2*(used+1+window-told) >= window {
					told = used + 1 + window
					s.tells(maxStreamData(id, told))
				}
				s.quiet(wide)
			}
		}
	}
}

// How many streams it allows grows as the peer's are over.
func TestP21_5GrowsStreams(t *testing.T) {
	for window := 1; window < 8; window++ {
		for kind := range 2 {
			uni := kind == 1
			own := put(put(plenty(), 4, 0), 5, 0)
			s := begin(t, true, put(own, 4+kind, window), plenty())
			limit := window
			for over := range 40 {
				low := 4*over + 2*kind
				s.takes(last(4*(limit-1)+2*kind, 0, ""), last(low, 0, ""))
				s.refuses(piece(4*limit+2*kind, 0, ""), api.StreamLimit, api.ErrLimit)
				s.refuses(piece(2-2*kind, 0, ""), api.StreamLimit, api.ErrLimit)
				s.reads(low, 0, "", true)
				if !uni {
					s.quiet(wide) // its writing part is not over
					s.finishes(low, api.OK)
					s.acked(s.tells(last(low, 0, ""))...)
				}
				if 2*(over+1+window-limit) >= window {
					limit = over + 1 + window
					s.tells(maxStreams(uni, limit))
				}
				s.quiet(wide)
			}
		}
	}
}

// What is stopped or reset is used, so that others may go on.
func TestP21_5GrowsGivenUp(t *testing.T) {
	s := begin(t, true, put(plenty(), 0, 10), plenty())
	s.takes(piece(0, 4, "a")) // a gap counts, too
	s.quiet(wide)
	s.stops(0, 1, api.OK)
	s.tells(maxData(15), stopOf(0, 1))
	s.takes(piece(0, 9, "a"))
	s.tells(maxData(20))
	s.takes(resetOf(2, 1, 5))
	s.tells(maxData(25))
	s.takes(resetOf(0, 1, 12))
	s.told(0, 17, 25, 2)
	s.takes(piece(4, 0, "abcde"), resetOf(4, 1, 8))
	s.tells(maxData(35))
	s.told(0, 25, 35, 3)
}

// What is said of a notice is held against the fields that its kind has.
func TestP21_5AnsweredFields(t *testing.T) {
	l := streams.Limits{Data: 2, Local: 2, Remote: 2, Uni: 2, Bidis: 2, Unis: 1}
	s := begin(t, true, l, plenty())
	s.opens(false, 1)
	s.takes(piece(0, 0, "ab"), last(2, 0, ""))
	s.reads(2, 9, "", true)
	s.reads(0, 9, "ab", false)
	s.resets(1, 5, api.OK)
	s.stops(1, 6, api.OK)
	for _, f := range s.drain() {
		other := f
		other.Offset, other.Data, other.Fin, other.Delay = 9, []byte("abc"), true, 3
		switch f.Kind {
		case api.MaxData, api.MaxStreamsUni:
			other.Stream, other.Code = 8, 9
		case api.MaxStreamData:
			other.Code = 9
		case api.StopSending:
			other.Limit = 9
		}
		s.Lost(other)
		s.tells(f)
		s.Acked(other)
		s.Lost(f)
		s.quiet(wide)
	}
}
