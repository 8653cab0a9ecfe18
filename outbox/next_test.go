package outbox_test

import (
	"math"
	"testing"

	"caravel/outbox"
)

// sending tells an outbox that has the bytes abcdefgh, of which so many were sent, one at a time.
func sending(t *testing.T, sent int) *outbox.Outbox {
	t.Helper()
	b := begin(t, 20)
	writes(t, b, "abcdefgh", 8)
	for i := range sent {
		tells(t, b, 1, 99, i, "abcdefgh"[i:i+1], false)
	}
	return b
}

func TestP7_3Next(t *testing.T) {
	type outboxes func(t *testing.T) *outbox.Outbox
	sent := func(n int) outboxes {
		return func(t *testing.T) *outbox.Outbox { return sending(t, n) }
	}
	lost := func(n int, spans ...int) outboxes { // from one up to another
		return func(t *testing.T) *outbox.Outbox {
			b := sending(t, n)
			for i := 0; i < len(spans); i += 2 {
				loses(t, b, piece(spans[i], "--------"[spans[i]:spans[i+1]], false))
			}
			return b
		}
	}
	finished := func(of outboxes) outboxes {
		return func(t *testing.T) *outbox.Outbox {
			b := of(t)
			finishes(t, b)
			return b
		}
	}
	ended := func(of outboxes, told func(t *testing.T, b *outbox.Outbox, p outbox.Piece)) outboxes { // the end was sent, too
		return func(t *testing.T) *outbox.Outbox {
			b := finished(of)(t)
			told(t, b, tells(t, b, 0, 0, 8, "", true))
			return b
		}
	}
	way := func(*testing.T, *outbox.Outbox, outbox.Piece) {}
	behind := func(of outboxes, then func(t *testing.T, b *outbox.Outbox)) outboxes {
		return func(t *testing.T) *outbox.Outbox {
			b := of(t)
			then(t, b)
			return b
		}
	}
	for _, c := range []struct {
		name        string
		of          outboxes
		most, limit int
		want        outbox.Piece
		ok          bool
	}{
		{"most far below 0", sent(0), math.MinInt, 99, outbox.Piece{}, false},
		{"most below 0", sent(0), -1, 99, outbox.Piece{}, false},
		{"most below 0, lost ones", lost(4, 0, 2), -1, 99, outbox.Piece{}, false},
		{"most below 0, the end alone", finished(sent(8)), -1, 99, outbox.Piece{}, false},
		{"most 0", sent(0), 0, 99, outbox.Piece{}, false},
		{"most 1", sent(0), 1, 99, piece(0, "a", false), true},
		{"most below what is new", sent(0), 7, 99, piece(0, "abcdefg", false), true},
		{"most at what is new", sent(0), 8, 99, piece(0, "abcdefgh", false), true},
		{"most above what is new", sent(0), 9, 99, piece(0, "abcdefgh", false), true},
		{"most far above", sent(0), math.MaxInt, math.MaxInt, piece(0, "abcdefgh", false), true},
		{"the rest", sent(3), 99, 99, piece(3, "defgh", false), true},
		{"a part of the rest", sent(3), 2, 99, piece(3, "de", false), true},
		{"nothing is new", sent(8), 99, 99, outbox.Piece{}, false},
		{"limit far below 0", sent(0), 9, math.MinInt, outbox.Piece{}, false},
		{"limit below 0", sent(0), 9, -1, outbox.Piece{}, false},
		{"limit 0", sent(0), 9, 0, outbox.Piece{}, false},
		{"limit 1", sent(0), 9, 1, piece(0, "a", false), true},
		{"limit far below what was sent", sent(3), 9, math.MinInt, outbox.Piece{}, false},
		{"limit below what was sent", sent(3), 9, 2, outbox.Piece{}, false},
		{"limit at what was sent", sent(3), 9, 3, outbox.Piece{}, false},
		{"limit above what was sent", sent(3), 9, 4, piece(3, "d", false), true},
		{"limit below what was written", sent(3), 9, 7, piece(3, "defg", false), true},
		{"limit at what was written", sent(3), 9, 8, piece(3, "defgh", false), true},
		{"limit above what was written", sent(3), 9, 9, piece(3, "defgh", false), true},
		{"limit and most alike", sent(3), 3, 6, piece(3, "def", false), true},
		{"limit below most", sent(3), 4, 6, piece(3, "def", false), true},
		{"most below limit", sent(3), 2, 6, piece(3, "de", false), true},
		{"most 0, limit at what was sent, the end waits", finished(sent(3)), 0, 3, outbox.Piece{}, false},
		{"new bytes above the limit, the end waits", finished(sent(3)), 9, 3, outbox.Piece{}, false},
		{"new bytes, the end is not theirs", finished(sent(3)), 4, 99, piece(3, "defg", false), true},
		{"new bytes below the limit, the end is not theirs", finished(sent(3)), 9, 7, piece(3, "defg", false), true},
		{"new bytes with the end", finished(sent(3)), 5, 8, piece(3, "defgh", true), true},
		{"all with the end", finished(sent(0)), 9, 9, piece(0, "abcdefgh", true), true},
		{"the end alone", finished(sent(8)), 9, 99, piece(8, "", true), true},
		{"the end alone, most 0", finished(sent(8)), 0, 99, piece(8, "", true), true},
		{"the end alone, limit 0", finished(sent(8)), 0, 0, piece(8, "", true), true},
		{"the end alone, limit far below 0", finished(sent(8)), 9, math.MinInt, piece(8, "", true), true},
		{"the end on its way", ended(sent(8), way), 9, 99, outbox.Piece{}, false},
		{"the end lost", ended(sent(8), loses), 9, 99, piece(8, "", true), true},
		{"the end lost, most and limit 0", ended(sent(8), loses), 0, 0, piece(8, "", true), true},
		{"the end arrived", ended(sent(8), acks), 9, 99, outbox.Piece{}, false},
		{"one lost", lost(4, 1, 2), 9, 99, piece(1, "b", false), true},
		{"one lost, most 0", lost(4, 1, 2), 0, 99, outbox.Piece{}, false},
		{"one lost, limit 0", lost(4, 1, 2), 9, 0, piece(1, "b", false), true},
		{"one lost, limit far below 0", lost(4, 1, 2), 9, math.MinInt, piece(1, "b", false), true},
		{"lost ones, cut", lost(8, 1, 6), 2, 99, piece(1, "bc", false), true},
		{"lost ones, one less", lost(8, 1, 6), 4, 99, piece(1, "bcde", false), true},
		{"lost ones, just all", lost(8, 1, 6), 5, 99, piece(1, "bcdef", false), true},
		{"lost ones, more than all", lost(8, 1, 6), 6, 99, piece(1, "bcdef", false), true},
		{"lost ones in two spans", lost(8, 4, 6, 1, 3), 9, 99, piece(1, "bc", false), true},
		{"lost ones in three spans", lost(8, 6, 7, 2, 3, 0, 1), 9, 99, piece(0, "a", false), true},
		{"lost ones of two pieces side by side", lost(8, 3, 6, 1, 3), 9, 99, piece(1, "bcdef", false), true},
		{"lost ones of overlapping pieces", lost(8, 2, 6, 1, 4), 9, 99, piece(1, "bcdef", false), true},
		{"lost ones beside new ones", lost(4, 2, 4), 9, 99, piece(2, "cd", false), true},
		{"lost ones at the stream's end, no end", lost(8, 6, 8), 9, 99, piece(6, "gh", false), true},
		{"lost ones at the stream's end, the end new", finished(lost(8, 6, 8)), 9, 99, piece(6, "gh", true), true},
		{"lost ones at the stream's end, cut, the end new", finished(lost(8, 6, 8)), 1, 99, piece(6, "g", false), true},
		{"lost ones, the end new and alone", finished(lost(8, 1, 3)), 9, 99, piece(1, "bc", false), true},
		{"lost ones, the end new and alone, most 0", finished(lost(8, 1, 3)), 0, 99, outbox.Piece{}, false},
		{"lost ones ahead of what was sent, the end new", finished(lost(4, 2, 4)), 9, 99, piece(2, "cd", false), true},
		{"the end on its way, lost ones at the end", behind(ended(sent(8), way), func(t *testing.T, b *outbox.Outbox) { loses(t, b, piece(6, "gh", false)) }), 9, 99, piece(6, "gh", false), true},
		{"the end lost with bytes", behind(ended(sent(8), way), func(t *testing.T, b *outbox.Outbox) { loses(t, b, piece(6, "gh", true)) }), 9, 99, piece(6, "gh", true), true},
		{"the end lost with bytes, cut", behind(ended(sent(8), way), func(t *testing.T, b *outbox.Outbox) { loses(t, b, piece(6, "gh", true)) }), 1, 99, piece(6, "g", false), true},
		{"the end lost, and other bytes", behind(ended(sent(8), loses), func(t *testing.T, b *outbox.Outbox) { loses(t, b, piece(2, "cd", false)) }), 9, 99, piece(2, "cd", false), true},
		{"the end lost, and other bytes, most 0", behind(ended(sent(8), loses), func(t *testing.T, b *outbox.Outbox) { loses(t, b, piece(2, "cd", false)) }), 0, 99, outbox.Piece{}, false},
		{"the end arrived, lost ones at the end", behind(ended(sent(8), acks), func(t *testing.T, b *outbox.Outbox) { loses(t, b, piece(6, "gh", false)) }), 9, 99, piece(6, "gh", false), true},
		{"of nothing", func(t *testing.T) *outbox.Outbox { return begin(t, 9) }, 9, 99, outbox.Piece{}, false},
		{"the end of nothing", finished(func(t *testing.T) *outbox.Outbox { return begin(t, 0) }), 0, -1, piece(0, "", true), true},
	} {
		t.Run(c.name, func(t *testing.T) {
			b := c.of(t)
			if _, ok := c.of(t).Next(1, c.limit); b.Waits(c.limit) != ok {
				t.Errorf("Waits(%d) = %v", c.limit, !ok)
			}
			p, ok := b.Next(c.most, c.limit)
			if ok != c.ok || !same(p, c.want) {
				t.Fatalf("Next(%d, %d) = %v, %v, not %v, %v", c.most, c.limit, show(p), ok, show(c.want), c.ok)
			}
		})
	}
}

// What was told is on its way: it is not told again ahead of its being lost.
func TestP7_3OnItsWay(t *testing.T) {
	b := sending(t, 0)
	finishes(t, b)
	tells(t, b, 3, 99, 0, "abc", false)
	tells(t, b, 9, 5, 3, "de", false)
	tellsNone(t, b, 9, 5)
	tells(t, b, 9, 99, 5, "fgh", true)
	tellsNone(t, b, 9, 99)
	loses(t, b, piece(1, "bcd", false))
	tells(t, b, 2, 99, 1, "bc", false)
	tells(t, b, 2, 99, 3, "d", false)
	tellsNone(t, b, 9, 99)
	loses(t, b, piece(7, "h", true))
	loses(t, b, piece(0, "ab", false))
	tells(t, b, 9, 99, 0, "ab", false)
	tells(t, b, 9, 99, 7, "h", true)
	tellsNone(t, b, 9, 99)
}

// Lost bytes come from the first one on, whichever was lost first, and all ahead of new ones and of the end.
func TestP7_3LostAheadOfNew(t *testing.T) {
	b := sending(t, 7)
	finishes(t, b)
	for _, at := range []int{5, 1, 3, 2} {
		loses(t, b, piece(at, "-", false))
	}
	tells(t, b, 9, 99, 1, "bcd", false)
	loses(t, b, piece(0, "-", false))
	tells(t, b, 9, 99, 0, "a", false)
	tells(t, b, 9, 99, 5, "f", false)
	tells(t, b, 9, 99, 7, "h", true)
	tellsNone(t, b, 9, 99)
}

// A refusal changes nothing: what was due is due still.
func TestP7_3Refused(t *testing.T) {
	b := sending(t, 4)
	loses(t, b, piece(2, "-", false))
	for range 3 {
		tellsNone(t, b, -1, 99)
		tellsNone(t, b, 0, 99)
	}
	tells(t, b, 9, 0, 2, "c", false)
	for range 3 {
		tellsNone(t, b, 9, 4)
		tellsNone(t, b, 0, 99)
	}
	sizes(t, b, 8, 4, 8)
	tells(t, b, 9, 5, 4, "e", false)
	tells(t, b, 9, 99, 5, "fgh", false)
	tellsNone(t, b, 9, 99)
}

// Bytes may come behind the last that was sent, and the end behind bytes that have arrived.
func TestP7_3LateBytesAndEnd(t *testing.T) {
	b := begin(t, 9)
	tellsNone(t, b, 9, 99)
	writes(t, b, "ab", 2)
	ab := tells(t, b, 9, 99, 0, "ab", false)
	writes(t, b, "c", 1)
	c := tells(t, b, 9, 99, 2, "c", false)
	tellsNone(t, b, 9, 99)
	acks(t, b, ab)
	acks(t, b, c)
	tellsNone(t, b, 9, 99)
	if b.Done() {
		t.Error("done, unfinished")
	}
	finishes(t, b)
	if b.Done() {
		t.Error("done, with the end new")
	}
	acks(t, b, tells(t, b, 9, 99, 3, "", true))
	if !b.Done() {
		t.Error("not done")
	}
}

// Lost bytes on both sides of a block's border are one span, and cut anywhere.
func TestP7_3LongSpans(t *testing.T) {
	const n = 5000
	text := string(letters(n))
	for _, from := range []int{0, 1, 1000, 1023, 1024, 1025, 2047, 3000} {
		for _, to := range []int{from + 1, 1023, 1024, 1025, 2048, 2049, 4096, n - 1, n} {
			for _, most := range []int{1, 2, 23, 24, 1023, 1024, 1025, n} {
				if to <= from {
					continue
				}
				b := begin(t, n)
				writes(t, b, text, n)
				tells(t, b, n, n, 0, text, false)
				loses(t, b, piece(from, text[from:to], false))
				for at := from; at < to; at += most {
					tells(t, b, most, 0, at, text[at:min(to, at+most)], false)
					if most == 1 {
						break
					}
				}
			}
		}
	}
}

// What is told is new memory: neither changing it nor its spare room changes what is told later.
func TestP7_3NewMemory(t *testing.T) {
	for _, n := range []int{1, 3, 1023, 1024, 1025, 5000} {
		b, text := begin(t, n+9), string(letters(n))
		writes(t, b, text+"012345678", n+9)
		p := tells(t, b, n, n, 0, text, false)
		spoil(p)
		loses(t, b, p)
		q := tells(t, b, n, n, 0, text, false)
		spoil(p)
		if string(q.Data) != text {
			t.Fatalf("of %d bytes: two pieces share memory", n)
		}
		spoil(q)
		tells(t, b, 9, n+9, n, "012345678", false)
		loses(t, b, piece(0, text, false))
		tells(t, b, n, n, 0, text, false)
	}
}

// spoil changes a piece's bytes and their spare room.
func spoil(p outbox.Piece) {
	all := p.Data[:cap(p.Data)]
	for i := range all {
		all[i] = '-'
	}
}
