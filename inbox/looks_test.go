package inbox_test

import (
	"math"
	"testing"

	"caravel/api"
	"caravel/inbox"
)

func TestP6_4Looks(t *testing.T) {
	b := begin(t, 9)
	sees(t, b, view{limit: 9})
	put(t, b, 4, "", false) // it reaches, too
	sees(t, b, view{limit: 9, reach: 4})
	put(t, b, 2, "", false)
	sees(t, b, view{limit: 9, reach: 4})
	put(t, b, 2, "cd", false)
	sees(t, b, view{limit: 9, reach: 4, held: 2})
	put(t, b, 5, "f", false)
	sees(t, b, view{limit: 9, reach: 6, held: 3})
	put(t, b, 0, "a", false)
	sees(t, b, view{ready: 1, limit: 9, reach: 6, held: 4})
	put(t, b, 0, "XbX", false)
	sees(t, b, view{ready: 4, limit: 9, reach: 6, held: 5})
	reads(t, b, 3, "abc", false)
	sees(t, b, view{ready: 1, limit: 12, reach: 6, held: 2})
	put(t, b, 0, "XXXX", false)
	sees(t, b, view{ready: 1, limit: 12, reach: 6, held: 2})
	if e := b.End(8); e != api.OK {
		t.Fatal(int(e))
	}
	sees(t, b, view{ready: 1, limit: 12, reach: 8, final: 8, known: true, held: 2})
	put(t, b, 4, "eXg", false)
	sees(t, b, view{ready: 4, limit: 12, reach: 8, final: 8, known: true, held: 4})
	put(t, b, 7, "h", true)
	sees(t, b, view{ready: 5, limit: 12, reach: 8, final: 8, known: true, held: 5})
	reads(t, b, 9, "defgh", true)
	sees(t, b, view{limit: 17, reach: 8, final: 8, known: true})
}

// What is refused is not reached, nor is the final size known by it.
func TestP6_4Refused(t *testing.T) {
	b := begin(t, 9)
	put(t, b, 3, "d", false)
	for _, e := range []api.Errno{
		b.Put(9, []byte("j"), false), b.Put(10, nil, true), b.Put(0, []byte("ab"), true), b.Put(-1, []byte("abcdefgh"), true),
		b.Put(top, []byte("a"), true), b.End(10), b.End(3), b.End(-1), b.Grow(-1), b.Grow(most + 1),
	} {
		if e == api.OK {
			t.Error("it was taken")
		}
	}
	sees(t, b, view{limit: 9, reach: 4, held: 1})
	reads(t, b, 9, "", false)
	put(t, b, 0, "abc", false)
	reads(t, b, 9, "abcd", false)
}

// The looks change nothing.
func TestP6_4LooksAlone(t *testing.T) {
	b := begin(t, 9)
	put(t, b, 1, "bc", true)
	for range 3 {
		sees(t, b, view{limit: 9, reach: 3, final: 3, known: true, held: 2})
	}
	put(t, b, 0, "a", false)
	for range 3 {
		sees(t, b, view{ready: 3, limit: 9, reach: 3, final: 3, known: true, held: 3})
	}
	reads(t, b, 9, "abc", true)
}

// Of one that is nil, or that no call made: ErrNil ahead of every other error, zero values, and nothing is done.
func TestNoInbox(t *testing.T) {
	var none *inbox.Inbox
	for _, b := range []*inbox.Inbox{none, {}} {
		for _, s := range append(wrongPieces(), piece{0, "", false, 0}, piece{0, "", true, 0}, piece{0, "ab", true, 0}, piece{top, "", false, 0}) {
			if e := b.Put(s.offset, []byte(s.text), s.fin); e != api.ErrNil {
				t.Errorf("Put(%d, %q, %v) = %d", s.offset, s.text, s.fin, int(e))
			}
		}
		for _, n := range append(wrongRooms(), 0, 1, 9, most) {
			if e := b.End(n); e != api.ErrNil {
				t.Errorf("End(%d) = %d", n, int(e))
			}
			if e := b.Grow(n); e != api.ErrNil {
				t.Errorf("Grow(%d) = %d", n, int(e))
			}
		}
		for _, n := range []int{math.MinInt, -1, 0, 1, 9, math.MaxInt} {
			reads(t, b, n, "", false)
		}
		sees(t, b, view{})
	}
}

// Two inboxes share nothing.
func TestApart(t *testing.T) {
	a, b := begin(t, 9), begin(t, 5)
	put(t, a, 0, "abc", true)
	put(t, b, 1, "XY", false)
	reads(t, b, 9, "", false)
	sees(t, b, view{limit: 5, reach: 3, held: 2})
	reads(t, a, 9, "abc", true)
	put(t, b, 0, "W", false)
	reads(t, b, 9, "WXY", false)
}
