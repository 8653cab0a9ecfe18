package inbox_test

import (
	"math"
	"testing"

	"caravel/api"
	"caravel/inbox"
)

// wrongRooms may not be rooms.
func wrongRooms() []int {
	return []int{math.MinInt, -most, -2, -1, most + 1, most + 2, top, math.MaxInt}
}

func TestP6_1New(t *testing.T) {
	for _, room := range []int{0, 1, 9, 63, 64, 65, most - 1, most} {
		sees(t, begin(t, room), view{limit: room})
	}
	for _, room := range wrongRooms() {
		if b, e := inbox.New(room); b != nil || e != api.ErrArg {
			t.Errorf("New(%d) = %v, %d", room, b, int(e))
		}
	}
}

func TestP6_1Grow(t *testing.T) {
	b := begin(t, 5)
	for _, c := range []struct{ room, limit int }{
		{5, 5}, {6, 6}, {3, 6}, {0, 6}, {6, 6}, {7, 7}, {most - 1, most - 1}, {most, most}, {1, most}, {most, most},
	} {
		if e := b.Grow(c.room); e != api.OK || b.Limit() != c.limit {
			t.Fatalf("Grow(%d) = %d, the limit is %d, not %d", c.room, int(e), b.Limit(), c.limit)
		}
	}
	for _, room := range wrongRooms() {
		if e := b.Grow(room); e != api.ErrArg || b.Limit() != most {
			t.Errorf("Grow(%d) = %d, the limit is %d", room, int(e), b.Limit())
		}
	}
}

// The limit is the greatest that place and room were together: a lesser room lets it stand till reading has caught up.
func TestP6_1Limit(t *testing.T) {
	b := begin(t, 4)
	put(t, b, 0, "abcd", false)
	if e := b.Put(4, []byte("e"), false); e != api.ErrFlow {
		t.Fatal(int(e))
	}
	if e := b.Grow(2); e != api.OK || b.Limit() != 4 {
		t.Fatal(int(e), b.Limit())
	}
	for _, c := range []struct {
		text  string
		limit int
	}{{"a", 4}, {"b", 4}, {"c", 5}, {"d", 6}} {
		reads(t, b, 1, c.text, false)
		if b.Limit() != c.limit {
			t.Fatalf("behind %q the limit is %d, not %d", c.text, b.Limit(), c.limit)
		}
	}
	put(t, b, 4, "ef", false)
	if e := b.Put(6, []byte("g"), false); e != api.ErrFlow {
		t.Fatal(int(e))
	}
	if e := b.Grow(3); e != api.OK || b.Limit() != 7 {
		t.Fatal(int(e), b.Limit())
	}
	put(t, b, 6, "g", true)
	if e := b.Grow(0); e != api.OK || b.Limit() != 7 {
		t.Fatal(int(e), b.Limit())
	}
	reads(t, b, 9, "efg", true)
	if b.Limit() != 7 {
		t.Fatal(b.Limit())
	}
	if e := b.Grow(most); e != api.OK || b.Limit() != 7+most {
		t.Fatal(int(e), b.Limit())
	}
}

// A room that may not be changes nothing that reading could tell later.
func TestP6_1WrongRooms(t *testing.T) {
	p := newPair(t, 6)
	p.put(0, []byte("abc"), false)
	p.grow(4)
	for _, room := range wrongRooms() {
		if e := p.grow(room); e != api.ErrArg {
			t.Errorf("Grow(%d) = %d", room, int(e))
		}
	}
	p.read(1)
	p.read(9)
	if p.b.Limit() != 7 {
		t.Error(p.b.Limit())
	}
}

func TestP6_1NoRoom(t *testing.T) {
	b := begin(t, 0)
	put(t, b, 0, "", false)
	for _, e := range []api.Errno{b.Put(0, []byte("a"), false), b.Put(1, nil, false), b.Put(1, nil, true), b.End(1)} {
		if e != api.ErrFlow {
			t.Error(int(e))
		}
	}
	reads(t, b, 9, "", false)
	sees(t, b, view{})
	put(t, b, 0, "", true)
	reads(t, b, 0, "", true)
	sees(t, b, view{known: true})
}

// piece is a piece that is put, and what Put answers.
type piece struct {
	offset int
	text   string
	fin    bool
	want   api.Errno
}

func TestP6_2Put(t *testing.T) {
	for _, c := range []struct {
		name   string
		pieces []piece
		text   string
		held   int // behind Read of all that is ready
		done   bool
	}{
		{"in order", []piece{{0, "ab", false, 0}, {2, "cd", true, 0}}, "abcd", 0, true},
		{"the last first", []piece{{2, "cd", true, 0}, {0, "ab", false, 0}}, "abcd", 0, true},
		{"apart", []piece{{0, "ab", false, 0}, {3, "d", false, 0}}, "ab", 1, false},
		{"not from the beginning", []piece{{1, "bcd", true, 0}}, "", 3, false},
		{"overlap, the first counts", []piece{{0, "abc", false, 0}, {2, "XYz", false, 0}}, "abcYz", 0, false},
		{"overlap ahead of it", []piece{{2, "cde", false, 0}, {0, "abXY", false, 0}}, "abcde", 0, false},
		{"within", []piece{{0, "abcde", false, 0}, {1, "XYZ", false, 0}}, "abcde", 0, false},
		{"within, at its beginning", []piece{{0, "abcde", false, 0}, {0, "XY", false, 0}}, "abcde", 0, false},
		{"within, at its end", []piece{{0, "abcde", false, 0}, {3, "XY", true, 0}}, "abcde", 0, true},
		{"twice", []piece{{0, "abc", false, 0}, {0, "XYZ", false, 0}}, "abc", 0, false},
		{"covers one", []piece{{2, "c", false, 0}, {0, "abXde", false, 0}}, "abcde", 0, false},
		{"covers several", []piece{{1, "b", false, 0}, {3, "de", false, 0}, {6, "g", false, 0}, {0, "aXcXXfXh", true, 0}}, "abcdefgh", 0, true},
		{"covers several, up to their ends", []piece{{1, "b", false, 0}, {3, "de", false, 0}, {1, "XcXX", false, 0}, {0, "a", false, 0}}, "abcde", 0, false},
		{"between two", []piece{{0, "ab", false, 0}, {4, "ef", false, 0}, {2, "cd", false, 0}}, "abcdef", 0, false},
		{"between two, and over both", []piece{{0, "ab", false, 0}, {4, "ef", false, 0}, {1, "XcdX", false, 0}}, "abcdef", 0, false},
		{"a piece without bytes", []piece{{0, "ab", false, 0}, {2, "", false, 0}, {0, "", false, 0}, {1, "", false, 0}}, "ab", 0, false},
		{"fin without bytes", []piece{{0, "ab", false, 0}, {2, "", true, 0}}, "ab", 0, true},
		{"fin without bytes, ahead", []piece{{2, "", true, 0}, {0, "ab", false, 0}}, "ab", 0, true},
		{"fin of no bytes at all", []piece{{0, "", true, 0}}, "", 0, true},
		{"fin twice", []piece{{0, "ab", true, 0}, {1, "X", true, 0}, {2, "", true, 0}}, "ab", 0, true},
		{"fin at a greater end", []piece{{0, "ab", true, 0}, {2, "c", true, api.ErrFinal}, {3, "", true, api.ErrFinal}}, "ab", 0, true},
		{"fin at a lesser end", []piece{{0, "ab", true, 0}, {0, "a", true, api.ErrFinal}, {0, "", true, api.ErrFinal}}, "ab", 0, true},
		{"beyond the final size", []piece{{2, "", true, 0}, {2, "c", false, api.ErrFinal}, {0, "abc", false, api.ErrFinal}, {3, "", false, api.ErrFinal}}, "", 0, false},
		{"up to the final size", []piece{{3, "", true, 0}, {1, "bc", false, 0}, {0, "a", false, 0}}, "abc", 0, true},
		{"fin below what was reached", []piece{{4, "e", false, 0}, {0, "abcd", true, api.ErrFinal}, {0, "ab", true, api.ErrFinal}}, "", 1, false},
		{"fin below a piece without bytes", []piece{{5, "", false, 0}, {0, "abcd", true, api.ErrFinal}, {4, "", true, api.ErrFinal}, {0, "abcde", true, 0}}, "abcde", 0, true},
		{"fin at what was reached", []piece{{4, "e", false, 0}, {0, "abcd", false, 0}, {5, "", true, 0}}, "abcde", 0, true},
		{"fin above what was reached", []piece{{4, "e", false, 0}, {0, "abcdXf", true, 0}}, "abcdef", 0, true},
		{"at the limit", []piece{{8, "i", false, 0}, {9, "", false, 0}, {0, "abcdefghX", true, 0}}, "abcdefghi", 0, true},
		{"above the limit", []piece{{9, "j", false, api.ErrFlow}, {8, "ij", false, api.ErrFlow}, {10, "", false, api.ErrFlow}, {10, "", true, api.ErrFlow}, {0, "abcdefghij", true, api.ErrFlow}, {0, "ab", false, 0}}, "ab", 0, false},
	} {
		t.Run(c.name, func(t *testing.T) {
			p := newPair(t, 9)
			for _, s := range c.pieces {
				if e := p.put(s.offset, []byte(s.text), s.fin); e != s.want {
					t.Fatalf("Put(%d, %q, %v) = %d, not %d", s.offset, s.text, s.fin, int(e), int(s.want))
				}
			}
			reads(t, p.b, 99, c.text, c.done)
			if p.b.Held() != c.held || p.b.Ready() != 0 {
				t.Errorf("%d bytes held, %d ready", p.b.Held(), p.b.Ready())
			}
		})
	}
}

// Bytes that were read already don't come again, and don't put what waits in their stead.
func TestP6_2ReadAlready(t *testing.T) {
	for _, place := range []int{0, 60, 61, 62, 63, 64, 65, 127, 128, 129} {
		p := newPairAt(t, 9, place)
		p.put(place, []byte("abcd"), false)
		p.read(3)
		p.put(place, []byte("XYZ"), false)  // all of it read
		p.put(place+1, []byte("XY"), false) // likewise
		p.put(place, []byte("XYZWef"), false)
		p.put(place+2, nil, false)
		p.put(0, nil, false)
		reads(t, p.b, 2, "de", false)
		p.m.read(2)
		p.looks()
		p.put(0, letters(place), false)
		p.put(place+6, nil, true)
		p.read(9)
		p.put(place, []byte("abcdef"), true)
		p.put(0, nil, false)
		p.read(9)
	}
}

// wrongPieces have an offset below 0, or an end above MaxVar.
func wrongPieces() []piece {
	list := []piece{{top, "a", false, 0}, {top - 1, "ab", false, 0}, {top - 3, "abcd", true, 0}}
	for _, offset := range []int{math.MinInt, math.MinInt + 1, -top, -2, -1, top + 1, top + 2, math.MaxInt - 1, math.MaxInt} {
		for _, text := range []string{"", "a", "abcd"} {
			list = append(list, piece{offset, text, false, 0}, piece{offset, text, true, 0})
		}
	}
	return list
}

// Each error in the chapter's order, whatever else is wrong; nothing has changed.
func TestP6_2WrongPieces(t *testing.T) {
	for _, ahead := range []func(p pair){
		func(p pair) {},
		func(p pair) { p.put(3, []byte("de"), false) },
		func(p pair) { p.put(0, []byte("abc"), true) },
		func(p pair) { p.put(0, []byte("abc"), true); p.read(9) },
		func(p pair) { p.end(9) },
	} {
		p := newPair(t, 9)
		ahead(p)
		for _, w := range wrongPieces() {
			if e := p.put(w.offset, []byte(w.text), w.fin); e != api.ErrArg {
				t.Errorf("Put(%d, %q, %v) = %d", w.offset, w.text, w.fin, int(e))
			}
		}
		for _, final := range []int{math.MinInt, -top, -2, -1, top + 1, top + 2, math.MaxInt} {
			if e := p.end(final); e != api.ErrArg {
				t.Errorf("End(%d) = %d", final, int(e))
			}
		}
		p.read(9)
	}
}

// At MaxVar a piece may end, if it were allowed; ErrFinal comes ahead of ErrFlow.
func TestP6_2FinalAheadOfFlow(t *testing.T) {
	for _, c := range []struct {
		known bool
		want  api.Errno
	}{{false, api.ErrFlow}, {true, api.ErrFinal}} {
		p := newPair(t, 9)
		if c.known {
			p.put(0, []byte("ab"), true)
		}
		for _, s := range []piece{{top, "", false, 0}, {top, "", true, 0}, {top - 1, "a", false, 0}, {top - 2, "ab", true, 0}, {20, "", false, 0}, {10, "", true, 0}, {9, "a", false, 0}, {0, "abcdefghij", false, 0}} {
			if e := p.put(s.offset, []byte(s.text), s.fin); e != c.want {
				t.Errorf("known %v: Put(%d, %q, %v) = %d", c.known, s.offset, s.text, s.fin, int(e))
			}
		}
		for _, final := range []int{top, top - 1, 20, 10} {
			if e := p.end(final); e != c.want {
				t.Errorf("known %v: End(%d) = %d", c.known, final, int(e))
			}
		}
		p.read(9)
	}
}

func TestP6_2End(t *testing.T) {
	for _, c := range []struct {
		name  string
		ahead func(p pair)
		final int
		want  api.Errno
	}{
		{"of nothing", func(p pair) {}, 0, api.OK},
		{"ahead of any piece", func(p pair) {}, 5, api.OK},
		{"at the limit", func(p pair) {}, 9, api.OK},
		{"above the limit", func(p pair) {}, 10, api.ErrFlow},
		{"above what was reached", func(p pair) { p.put(0, []byte("abc"), false) }, 4, api.OK},
		{"at what was reached", func(p pair) { p.put(1, []byte("bc"), false) }, 3, api.OK},
		{"below what was reached", func(p pair) { p.put(2, []byte("c"), false) }, 2, api.ErrFinal},
		{"at a piece without bytes", func(p pair) { p.put(3, nil, false) }, 3, api.OK},
		{"below a piece without bytes", func(p pair) { p.put(3, nil, false) }, 2, api.ErrFinal},
		{"at the end of a fin", func(p pair) { p.put(1, []byte("bc"), true) }, 3, api.OK},
		{"below the end of a fin", func(p pair) { p.put(1, []byte("bc"), true) }, 2, api.ErrFinal},
		{"above the end of a fin", func(p pair) { p.put(1, []byte("bc"), true) }, 4, api.ErrFinal},
		{"far above the end of a fin", func(p pair) { p.put(1, []byte("bc"), true) }, 99, api.ErrFinal},
		{"twice", func(p pair) { p.end(5) }, 5, api.OK},
		{"twice, greater", func(p pair) { p.end(5) }, 6, api.ErrFinal},
		{"twice, less", func(p pair) { p.end(5) }, 4, api.ErrFinal},
		{"at what was read", func(p pair) { p.put(0, []byte("abc"), false); p.read(3) }, 3, api.OK},
		{"below what was read", func(p pair) { p.put(0, []byte("abc"), false); p.read(3) }, 2, api.ErrFinal},
		{"at the limit behind reading", func(p pair) { p.put(0, []byte("abc"), false); p.read(3) }, 12, api.OK},
		{"above the limit behind reading", func(p pair) { p.put(0, []byte("abc"), false); p.read(3) }, 13, api.ErrFlow},
		{"behind done", func(p pair) { p.put(0, []byte("abc"), true); p.read(3) }, 3, api.OK},
		{"behind done, another", func(p pair) { p.put(0, []byte("abc"), true); p.read(3) }, 4, api.ErrFinal},
	} {
		t.Run(c.name, func(t *testing.T) {
			p := newPair(t, 9)
			c.ahead(p)
			ahead := viewOf(p.b)
			if e := p.end(c.final); e != c.want {
				t.Fatalf("End(%d) = %d, not %d", c.final, int(e), int(c.want))
			}
			if c.want != api.OK {
				sees(t, p.b, ahead)
			} else if n, ok := p.b.Final(); n != c.final || !ok || p.b.Reach() != c.final {
				t.Fatalf("Final = %d, %v, Reach = %d", n, ok, p.b.Reach())
			}
			p.read(99)
		})
	}
}

// Behind End the bytes may come still, up to the final size, and done is told behind them.
func TestP6_2BytesBehindEnd(t *testing.T) {
	p := newPair(t, 9)
	p.put(1, []byte("b"), false)
	p.end(4)
	p.read(9)
	for _, s := range []piece{{3, "de", false, api.ErrFinal}, {5, "", false, api.ErrFinal}, {4, "", true, 0}, {2, "c", true, api.ErrFinal}, {2, "c", false, 0}, {0, "a", false, 0}} {
		if e := p.put(s.offset, []byte(s.text), s.fin); e != s.want {
			t.Errorf("Put(%d, %q, %v) = %d", s.offset, s.text, s.fin, int(e))
		}
	}
	reads(t, p.b, 9, "abc", false)
	put(t, p.b, 3, "d", false)
	reads(t, p.b, 9, "d", true)
}

// What the caller does with a piece behind Put does not matter; neither the piece nor its spare room is changed.
func TestP6_2PieceNotKept(t *testing.T) {
	for _, n := range []int{1, 3, 63, 64, 65, 200} {
		b := begin(t, 1000)
		memory := letters(n + 100)
		put(t, b, 5, "X", false)
		if e := b.Put(0, memory[:n], false); e != api.OK {
			t.Fatal(int(e))
		}
		if string(memory) != string(letters(n+100)) {
			t.Fatalf("of %d bytes: the piece or its spare room was changed", n)
		}
		want := letters(n)
		if n > 5 {
			want[5] = 'X'
		}
		clear(memory)
		reads(t, b, n, string(want), false)
		if string(memory) != string(make([]byte, n+100)) {
			t.Fatalf("of %d bytes: the piece or its spare room was changed by Read", n)
		}
	}
}
