package inbox_test

import (
	"math"
	"testing"

	"caravel/api"
)

func TestP6_3Example(t *testing.T) {
	b := begin(t, 9)
	put(t, b, 2, "cd", false)
	reads(t, b, 9, "", false)
	put(t, b, 0, "abX", false)
	reads(t, b, 3, "abc", false)
	put(t, b, 4, "", true)
	sees(t, b, view{ready: 1, limit: 12, reach: 4, final: 4, known: true, held: 1})
	reads(t, b, 9, "d", true)
	for _, e := range []api.Errno{b.Put(4, []byte("e"), false), b.Put(20, nil, false)} {
		if e != api.ErrFinal {
			t.Error(int(e))
		}
	}
	if e := begin(t, 9).Put(8, []byte("ab"), false); e != api.ErrFlow {
		t.Error(int(e))
	}
}

// Of none, of less, of as many and of more than are ready.
func TestP6_3HowMany(t *testing.T) {
	for _, c := range []struct {
		n    int
		want string
	}{
		{math.MinInt, ""}, {-top, ""}, {-1, ""}, {0, ""}, {1, "a"}, {3, "abc"}, {4, "abcd"}, {5, "abcd"}, {9, "abcd"}, {top, "abcd"}, {math.MaxInt, "abcd"},
	} {
		b := begin(t, 9)
		put(t, b, 0, "abcd", false)
		put(t, b, 5, "f", false)
		read := len(c.want)
		reads(t, b, c.n, c.want, false)
		sees(t, b, view{ready: 4 - read, limit: 9 + read, reach: 6, held: 5 - read})
		put(t, b, 4, "e", false)
		sees(t, b, view{ready: 6 - read, limit: 9 + read, reach: 6, held: 6 - read})
		put(t, b, 6, "", true)
		reads(t, b, c.n, "abcdef"[read:min(6, read+max(0, min(c.n, 9)))], min(c.n, 9) >= 6-read)
	}
}

// Whatever portions bytes are read in, they are the same, and done comes with the last one.
func TestP6_3Portions(t *testing.T) {
	text := letters(300)
	for _, portion := range []int{1, 2, 7, 63, 64, 65, 127, 128, 129, 299, 300, 301, math.MaxInt} {
		b := begin(t, 300)
		put(t, b, 100, string(text[100:]), true)
		reads(t, b, portion, "", false)
		put(t, b, 0, string(text[:100]), false)
		for at := 0; at < 300; {
			next := at + min(portion, 300-at)
			reads(t, b, portion, string(text[at:next]), next == 300)
			sees(t, b, view{ready: 300 - next, limit: 300 + next, reach: 300, final: 300, known: true, held: 300 - next})
			at = next
		}
	}
}

// done hangs on the final size and the place, not on n: also Read of nothing tells it.
func TestP6_3Done(t *testing.T) {
	b := begin(t, 9)
	put(t, b, 0, "ab", true)
	for _, n := range []int{math.MinInt, -1, 0} {
		reads(t, b, n, "", false)
	}
	reads(t, b, 1, "a", false)
	reads(t, b, 0, "", false)
	reads(t, b, 1, "b", true)
	for _, n := range []int{math.MinInt, -1, 0, 1, 9, math.MaxInt} {
		reads(t, b, n, "", true)
	}
}

// All was read ahead of the end's coming: done is told by the next Read.
func TestP6_3DoneBehindReading(t *testing.T) {
	for name, last := range map[string]func(p pair){
		"fin":            func(p pair) { p.put(2, nil, true) },
		"fin with bytes": func(p pair) { p.put(0, []byte("XY"), true) },
		"End":            func(p pair) { p.end(2) },
	} {
		for _, n := range []int{-1, 0, 9} {
			p := newPair(t, 9)
			p.put(0, []byte("ab"), false)
			reads(t, p.b, 2, "ab", false)
			p.m.read(2)
			p.read(9)
			last(p)
			if got, done := p.b.Read(n); len(got) != 0 || !done {
				t.Errorf("%s: Read(%d) = %q, %v", name, n, got, done)
			}
		}
	}
}

// Behind done nothing that may come changes anything; what may not come is refused as ever.
func TestP6_3BehindDone(t *testing.T) {
	for _, size := range []int{0, 1, 63, 64, 65, 128} {
		p := newPair(t, 200)
		p.put(0, letters(size), true)
		p.read(most)
		done := viewOf(p.b)
		for _, s := range []piece{{0, "", false, 0}, {size, "", false, 0}, {size, "", true, 0}, {size, "a", false, api.ErrFinal}, {size + 1, "", false, api.ErrFinal}} {
			if e := p.put(s.offset, []byte(s.text), s.fin); e != s.want {
				t.Errorf("Put(%d, %q, %v) = %d", s.offset, s.text, s.fin, int(e))
			}
		}
		p.put(0, make([]byte, size), true)
		p.end(size)
		sees(t, p.b, done)
		for _, n := range []int{-1, 0, 1, most} {
			reads(t, p.b, n, "", true)
			sees(t, p.b, done)
		}
		p.grow(201)
		reads(t, p.b, most, "", true)
	}
}

// What Read told may be changed, its spare room too, and what is read later stays as it was.
func TestP6_3TellsNewMemory(t *testing.T) {
	for _, portion := range []int{1, 5, 63, 64, 65, 100} {
		b, text := begin(t, 300), letters(300)
		put(t, b, 0, string(text), false)
		var told [][]byte
		for at := 0; at < 300; {
			data, _ := b.Read(portion)
			next := min(300, at+portion)
			if string(data) != string(text[at:next]) {
				t.Fatalf("Read(%d) at %d = %q", portion, at, data)
			}
			told = append(told, data)
			for _, earlier := range told {
				clear(earlier[:cap(earlier)])
			}
			put(t, b, at, string(make([]byte, 300-at)), false) // they came before
			at = next
		}
	}
}

// Reading lets more come, as far as the room is, and no further.
func TestP6_3ReadingMakesRoom(t *testing.T) {
	const room = 5
	p := newPair(t, room)
	for at := 0; at < 300; at++ {
		if e := p.put(at, letters(room), false); e != api.OK {
			t.Fatalf("at %d: %d", at, int(e))
		}
		for _, s := range []piece{{at + room, "a", false, 0}, {at, "abcdef", false, 0}, {at + room + 1, "", true, 0}} {
			if e := p.put(s.offset, []byte(s.text), s.fin); e != api.ErrFlow {
				t.Fatalf("Put(%d, %q, %v) = %d", s.offset, s.text, s.fin, int(e))
			}
		}
		p.read(1)
	}
}
