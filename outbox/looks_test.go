package outbox_test

import (
	"math"
	"testing"

	"caravel/api"
	"caravel/outbox"
)

func TestP7_5Done(t *testing.T) {
	for _, text := range []string{"", "a", "abc"} {
		n := len(text)
		for _, endFirst := range []bool{false, true} {
			b := begin(t, 9)
			is := func(want bool, behind string) {
				t.Helper()
				for range 2 {
					if b.Done() != want {
						t.Fatalf("%q, %s: Done() = %v", text, behind, !want)
					}
				}
			}
			is(false, "begun")
			writes(t, b, text, n)
			is(false, "written")
			if n > 0 {
				tells(t, b, 9, 9, 0, text, false)
			}
			finishes(t, b)
			is(false, "finished")
			end := tells(t, b, 9, 9, n, "", true)
			is(false, "sent")
			loses(t, b, end)
			is(false, "lost")
			if endFirst {
				acks(t, b, end)
				is(n == 0, "the end arrived")
				loses(t, b, piece(0, text, false))
				is(n == 0, "the end arrived, the bytes lost")
				acks(t, b, piece(0, text, false))
			} else {
				acks(t, b, piece(0, text, false))
				is(false, "the bytes arrived, the end lost")
				tells(t, b, 9, 9, n, "", true)
				is(false, "the bytes arrived, the end on its way")
				acks(t, b, end)
			}
			is(true, "all arrived")
			loses(t, b, piece(0, text, true))
			acks(t, b, piece(0, text, true))
			is(true, "all arrived, told again")
		}
	}
}

// What lacks is any one byte: it is not done.
func TestP7_5AllBut(t *testing.T) {
	text := "abcdefgh"
	for i := range text {
		b := begin(t, 9)
		writes(t, b, text, 8)
		finishes(t, b)
		tells(t, b, 9, 9, 0, text, true)
		acks(t, b, piece(0, text[:i], false))
		acks(t, b, piece(i+1, text[i+1:], true))
		sizes(t, b, 8, 8, 8-i)
		if b.Done() {
			t.Fatalf("done without %d", i)
		}
		acks(t, b, piece(i, "-", false))
		sizes(t, b, 8, 8, 0)
		if !b.Done() {
			t.Fatalf("not done behind %d", i)
		}
	}
}

// Waits tells what Next(1, limit) would, and changes nothing.
func TestP7_5Waits(t *testing.T) {
	limits := []int{math.MinInt, -1, 0, 1, 2, 3, 4, 5, api.MaxVar, math.MaxInt}
	waits := func(b *outbox.Outbox, behind string, from int) { // from this limit on
		t.Helper()
		for _, limit := range limits {
			for range 2 {
				if b.Waits(limit) != (limit >= from) {
					t.Errorf("%s: Waits(%d) = %v", behind, limit, limit < from)
				}
			}
		}
	}
	never := func(b *outbox.Outbox, behind string) {
		t.Helper()
		for _, limit := range limits {
			if b.Waits(limit) {
				t.Errorf("%s: Waits(%d)", behind, limit)
			}
		}
	}
	b := begin(t, 9)
	never(b, "begun")
	writes(t, b, "abcd", 4)
	waits(b, "written", 1)
	tells(t, b, 2, 9, 0, "ab", false)
	waits(b, "half sent", 3)
	finishes(t, b)
	waits(b, "half sent, finished", 3)
	loses(t, b, piece(0, "a", false))
	waits(b, "a lost", math.MinInt)
	tells(t, b, 9, 0, 0, "a", false)
	waits(b, "a sent again", 3)
	tells(t, b, 9, 3, 2, "c", false)
	waits(b, "d new", 4)
	tells(t, b, 9, 4, 3, "d", true)
	never(b, "all on its way")
	loses(t, b, piece(4, "", true))
	waits(b, "the end lost", math.MinInt)
	tells(t, b, 1, 0, 4, "", true)
	never(b, "all on its way again")
	acks(t, b, piece(0, "abcd", true))
	never(b, "done")
}

func TestP7_5Sizes(t *testing.T) {
	b := begin(t, 4)
	sizes(t, b, 0, 0, 0)
	writes(t, b, "abcdef", 4)
	sizes(t, b, 4, 0, 4)
	tells(t, b, 3, 9, 0, "abc", false)
	sizes(t, b, 4, 3, 4)
	loses(t, b, piece(0, "abc", false))
	sizes(t, b, 4, 3, 4) // the end of what was ever sent
	tells(t, b, 1, 9, 0, "a", false)
	sizes(t, b, 4, 3, 4)
	acks(t, b, piece(1, "b", false))
	sizes(t, b, 4, 3, 4)
	acks(t, b, piece(0, "a", false))
	sizes(t, b, 4, 3, 2)
	writes(t, b, "efg", 2)
	sizes(t, b, 6, 3, 4)
	finishes(t, b)
	sizes(t, b, 6, 3, 4)
	tells(t, b, 9, 9, 2, "c", false)
	tells(t, b, 9, 9, 3, "def", true)
	sizes(t, b, 6, 6, 4)
	acks(t, b, piece(5, "f", true))
	sizes(t, b, 6, 6, 4)
	acks(t, b, piece(2, "c", false))
	sizes(t, b, 6, 6, 3)
	acks(t, b, piece(0, "abcdef", false))
	sizes(t, b, 6, 6, 0)
	for range 2 {
		sizes(t, b, 6, 6, 0)
	}
}

// Of one that is nil, or that no call made: ErrNil ahead of every other error, zero values, and nothing is done.
func TestNoOutbox(t *testing.T) {
	var none *outbox.Outbox
	for _, b := range []*outbox.Outbox{none, {}} {
		for range 2 {
			for _, data := range []string{"", "a", "abc"} {
				if n, e := b.Write([]byte(data)); n != 0 || e != api.ErrNil {
					t.Errorf("Write(%q) = %d, %d", data, n, int(e))
				}
			}
			if e := b.Finish(); e != api.ErrNil {
				t.Errorf("Finish() = %d", int(e))
			}
			for _, p := range append(wrongPieces(), piece(0, "", false), piece(0, "", true), piece(0, "ab", true)) {
				if e := b.Acked(p); e != api.ErrNil {
					t.Errorf("Acked(%v) = %d", show(p), int(e))
				}
				if e := b.Lost(p); e != api.ErrNil {
					t.Errorf("Lost(%v) = %d", show(p), int(e))
				}
			}
			for _, n := range []int{math.MinInt, -1, 0, 1, 9, math.MaxInt} {
				for _, limit := range []int{math.MinInt, -1, 0, 1, 9, math.MaxInt} {
					tellsNone(t, b, n, limit)
				}
				if b.Waits(n) {
					t.Errorf("Waits(%d)", n)
				}
			}
			sizes(t, b, 0, 0, 0)
			if b.Done() {
				t.Error("done")
			}
		}
	}
}

// Two outboxes share nothing.
func TestApart(t *testing.T) {
	a, b := begin(t, 9), begin(t, 5)
	writes(t, a, "abc", 3)
	writes(t, b, "uvwxyz", 5)
	x := tells(t, a, 9, 9, 0, "abc", false)
	if e := b.Lost(x); e != api.ErrArg {
		t.Error(int(e))
	}
	tells(t, b, 3, 9, 0, "uvw", false)
	loses(t, b, x)
	finishes(t, b)
	tellsNone(t, a, 9, 9)
	tells(t, b, 9, 9, 0, "uvw", false)
	tells(t, b, 9, 9, 3, "xy", true)
	acks(t, a, x)
	sizes(t, a, 3, 3, 0)
	sizes(t, b, 5, 5, 5)
	writes(t, a, "d", 1)
}
