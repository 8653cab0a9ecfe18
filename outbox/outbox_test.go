package outbox_test

import (
	"math"
	"testing"

	"caravel/api"
	"caravel/outbox"
)

func TestExample(t *testing.T) {
	b := begin(t, 9)
	writes(t, b, "abcde", 5)
	finishes(t, b)
	abc := tells(t, b, 3, 99, 0, "abc", false)
	d := tells(t, b, 9, 4, 3, "d", false)
	e := tells(t, b, 9, 9, 4, "e", true)
	loses(t, b, abc)
	acks(t, b, d)
	abc = tells(t, b, 9, 9, 0, "abc", false)
	acks(t, b, abc)
	acks(t, b, e)
	if !b.Done() {
		t.Error("not done")
	}
	writes(t, begin(t, 3), "abcde", 3)
}

func TestP7_1New(t *testing.T) {
	for _, room := range []int{0, 1, 2, 9, 1023, 1024, 1025, most - 1, most} {
		b := begin(t, room)
		sizes(t, b, 0, 0, 0)
		tellsNone(t, b, 9, 9)
		if b.Done() || b.Waits(9) {
			t.Errorf("room %d: done %v, waits %v", room, b.Done(), b.Waits(9))
		}
		writes(t, b, string(letters(room+1)), room)
		sizes(t, b, room, 0, room)
	}
	for _, room := range []int{math.MinInt, -most, -2, -1, most + 1, most + 2, api.MaxVar, math.MaxInt} {
		if b, e := outbox.New(room); b != nil || e != api.ErrArg {
			t.Errorf("New(%d) = %v, %d", room, b, int(e))
		}
	}
}

func TestP7_2Write(t *testing.T) {
	for _, room := range []int{0, 1, 5, 1024, 70000, most} {
		for _, first := range []int{0, 1, room / 2, room - 1, room, room + 1, 2 * room} {
			for _, second := range []int{0, 1, room - first - 1, room - first, room - first + 1, room} {
				if first < 0 || second < 0 {
					continue
				}
				b := begin(t, room)
				one, two := min(first, room), min(second, room-min(first, room))
				writes(t, b, string(letters(first)), one)
				writes(t, b, string(letters(second)), two)
				sizes(t, b, one+two, 0, one+two)
				want := string(letters(one)) + string(letters(two))
				if want == "" {
					tellsNone(t, b, most, most)
					continue
				}
				tells(t, b, most, most, 0, want, false)
			}
		}
	}
}

func TestP7_2Nothing(t *testing.T) {
	b := begin(t, 3)
	for _, data := range [][]byte{nil, {}, []byte("abc")[:0]} {
		if n, e := b.Write(data); n != 0 || e != api.OK {
			t.Errorf("Write of nothing = %d, %d", n, int(e))
		}
	}
	sizes(t, b, 0, 0, 0)
	writes(t, b, "abcd", 3)
	writes(t, b, "", 0)
	writes(t, b, "d", 0)
	sizes(t, b, 3, 0, 3)
}

// Room is made by what arrives from the first byte on that is kept, by nothing else.
func TestP7_2Room(t *testing.T) {
	b := begin(t, 5)
	writes(t, b, "abcdefgh", 5)
	ab, c, de := tells(t, b, 2, 9, 0, "ab", false), tells(t, b, 1, 9, 2, "c", false), tells(t, b, 2, 9, 3, "de", false)
	writes(t, b, "f", 0) // sent, but kept still
	acks(t, b, c)
	writes(t, b, "f", 0)
	loses(t, b, de)
	writes(t, b, "f", 0)
	acks(t, b, ab)
	sizes(t, b, 5, 5, 2)
	writes(t, b, "fghi", 3)
	sizes(t, b, 8, 5, 5)
	writes(t, b, "i", 0)
	acks(t, b, piece(3, "-", false))
	writes(t, b, "ij", 1)
	acks(t, b, piece(0, "-----", false))
	writes(t, b, "jkl", 1)
	tells(t, b, 99, 99, 5, "fghij", false)
	sizes(t, b, 10, 10, 5)
}

func TestP7_2Finish(t *testing.T) {
	for _, text := range []string{"", "a", "abc"} {
		p := newPair(t, 3)
		p.write([]byte(text))
		if e := p.finish(); e != api.OK {
			t.Fatal(int(e))
		}
		wrong := func(behind string) {
			t.Helper()
			for range 2 {
				if e := p.finish(); e != api.ErrState {
					t.Errorf("%s: Finish() = %d", behind, int(e))
				}
				for _, more := range []string{"", "d", "defgh"} {
					if n, e := p.b.Write([]byte(more)); n != 0 || e != api.ErrState {
						t.Errorf("%s: Write(%q) = %d, %d", behind, more, n, int(e))
					}
					p.looks()
				}
			}
		}
		wrong("finished")
		x, ok := p.next(9, 9)
		if !ok || !same(x, piece(0, text, true)) {
			t.Fatalf("Next = %v, %v", show(x), ok)
		}
		wrong("sent")
		p.lost(x)
		wrong("lost")
		p.drain(1)
		p.acked(x)
		wrong("arrived")
		if !p.b.Done() {
			t.Error("not done")
		}
	}
}

// What the caller does with the bytes behind Write does not matter; neither they nor their spare room are changed.
func TestP7_2BytesNotKept(t *testing.T) {
	for _, n := range []int{1, 3, 1023, 1024, 1025, 5000} {
		b := begin(t, n)
		memory := letters(n + 100)
		if got, e := b.Write(memory[:n]); got != n || e != api.OK {
			t.Fatalf("Write = %d, %d", got, int(e))
		}
		if string(memory) != string(letters(n+100)) {
			t.Fatalf("of %d bytes: they or their spare room were changed", n)
		}
		clear(memory)
		p := tells(t, b, n, n, 0, string(letters(n)), false)
		loses(t, b, p)
		tells(t, b, n, n, 0, string(letters(n)), false)
		if string(memory) != string(make([]byte, n+100)) {
			t.Fatalf("of %d bytes: they or their spare room were changed by Next", n)
		}
	}
}

// Bytes that there is no room for are not taken, and not changed.
func TestP7_2RestNotKept(t *testing.T) {
	b := begin(t, 4)
	memory := []byte("abcdefgh")
	if n, e := b.Write(memory[:6:8]); n != 4 || e != api.OK {
		t.Fatalf("Write = %d, %d", n, int(e))
	}
	acks(t, b, tells(t, b, 9, 9, 0, "abcd", false))
	writes(t, b, "XY", 2)
	tells(t, b, 9, 9, 4, "XY", false)
	if string(memory) != "abcdefgh" {
		t.Errorf("%q", memory)
	}
}
