package datagrams_test

import (
	"math"
	"strings"
	"testing"

	"caravel/api"
	"caravel/datagrams"
)

const (
	huge  = math.MaxInt
	low   = math.MinInt
	large = 65535 // the most bytes of a datagram
)

// odd tells numbers from all of their range.
func odd() []int {
	return []int{low, low + 1, -large - 1, -large, -api.MaxQueue, -2, -1, 0, 1, 2, api.MaxQueue - 1, api.MaxQueue, api.MaxQueue + 1, large - 1, large, large + 1, 1 << 31, 1 << 32, api.MaxVar, huge - 1, huge}
}

// bytesOf tells so many bytes.
func bytesOf(n int) string { return strings.Repeat("abcdefg", n/7+1)[:n] }

// letters tells so many datagrams of one letter each.
func letters(n int) []string {
	var all []string
	for i := range n {
		all = append(all, string(rune('A'+i)))
	}
	return all
}

func queue(t *testing.T, most, room int, waits ...string) *datagrams.Queue {
	t.Helper()
	q, e := datagrams.New(most, room)
	if q == nil || e != api.OK {
		t.Fatalf("New(%d, %d) = %v, %d", most, room, q, int(e))
	}
	for _, b := range waits {
		puts(t, q, b)
	}
	return q
}

// told holds Told against how many wait, and how many bytes the oldest has.
func told(t *testing.T, q *datagrams.Queue, waits, first int) {
	t.Helper()
	if n, size := q.Told(); n != waits || size != first {
		t.Fatalf("Told() = %d, %d, not %d, %d", n, size, waits, first)
	}
}

func puts(t *testing.T, q *datagrams.Queue, b string) {
	t.Helper()
	if e := q.Put([]byte(b)); e != api.OK {
		t.Fatalf("Put(%.20q) = %d", b, int(e))
	}
}

// pushes puts one behind, and nothing goes.
func pushes(t *testing.T, q *datagrams.Queue, b string) {
	t.Helper()
	if gone, is, e := q.Push([]byte(b)); len(gone) > 0 || is || e != api.OK {
		t.Fatalf("Push(%.20q) = %.20q, %v, %d", b, gone, is, int(e))
	}
}

// displaces puts one behind, and another one goes.
func displaces(t *testing.T, q *datagrams.Queue, b, other string) {
	t.Helper()
	if gone, is, e := q.Push([]byte(b)); string(gone) != other || !is || e != api.OK {
		t.Fatalf("Push(%.20q) = %.20q, %v, %d, not %.20q", b, gone, is, int(e), other)
	}
}

// putFails and pushFails make a call that answers an error, and nothing else.
func putFails(t *testing.T, q *datagrams.Queue, b string, want api.Errno) {
	t.Helper()
	if e := q.Put([]byte(b)); e != want {
		t.Fatalf("Put(%.20q) = %d, not %d", b, int(e), int(want))
	}
}

func pushFails(t *testing.T, q *datagrams.Queue, b string, want api.Errno) {
	t.Helper()
	if gone, is, e := q.Push([]byte(b)); len(gone) > 0 || is || e != want {
		t.Fatalf("Push(%.20q) = %.20q, %v, %d, not %d", b, gone, is, int(e), int(want))
	}
}

// refuses says that neither Put nor Push take it.
func refuses(t *testing.T, q *datagrams.Queue, b string, want api.Errno) {
	t.Helper()
	putFails(t, q, b, want)
	pushFails(t, q, b, want)
}

func next(t *testing.T, q *datagrams.Queue, most int, want string) {
	t.Helper()
	if b, ok := q.Next(most); string(b) != want || !ok {
		t.Fatalf("Next(%d) = %.20q, %v, not %.20q", most, b, ok, want)
	}
}

// nothing says that Next tells none, and that none is taken out.
func nothing(t *testing.T, q *datagrams.Queue, most int) {
	t.Helper()
	waits, first := q.Told()
	if b, ok := q.Next(most); len(b) > 0 || ok {
		t.Fatalf("Next(%d) = %.20q, %v", most, b, ok)
	}
	told(t, q, waits, first)
}

// holds says that just these wait; it takes them all out.
func holds(t *testing.T, q *datagrams.Queue, waits ...string) {
	t.Helper()
	for i, b := range waits {
		told(t, q, len(waits)-i, len(b))
		next(t, q, huge, b)
	}
	told(t, q, 0, 0)
	nothing(t, q, huge)
}

// The chapter's example.
func TestP22_4Example(t *testing.T) {
	q := queue(t, 5, 2)
	puts(t, q, "a")
	puts(t, q, "bc")
	putFails(t, q, "d", api.ErrFull)
	displaces(t, q, "d", "a")
	nothing(t, q, 1)
	next(t, q, 2, "bc")
	putFails(t, q, "abcdef", api.ErrBig)
	holds(t, q, "d")
}

// A new queue has none, and takes datagrams up to its own bounds.
func TestP22_1New(t *testing.T) {
	for _, most := range []int{0, 1, 2, 5, 1199, 1200, 16383, 16384, large - 1, large} {
		for _, room := range []int{0, 1, 2, 5, api.MaxQueue - 1, api.MaxQueue} {
			q := queue(t, most, room)
			holds(t, q)
			refuses(t, q, bytesOf(most+1), api.ErrBig)
			var waits []string
			for i := range room {
				waits = append(waits, bytesOf(max(most-i, 0)))
				puts(t, q, waits[i])
			}
			putFails(t, q, "", api.ErrFull)
			refuses(t, q, bytesOf(most+1), api.ErrBig)
			holds(t, q, waits...)
		}
	}
}

func TestP22_1NewWrong(t *testing.T) {
	for _, most := range odd() {
		for _, room := range odd() {
			q, e := datagrams.New(most, room)
			may := most >= 0 && most <= large && room >= 0 && room <= api.MaxQueue
			if may && (q == nil || e != api.OK) || !may && (q != nil || e != api.ErrArg) {
				t.Errorf("New(%d, %d) = %v, %d", most, room, q, int(e))
			}
		}
	}
}

// The edges, one by one.
func TestP22_1NewEdges(t *testing.T) {
	for _, c := range []struct {
		most, room int
		want       api.Errno
	}{
		{-1, 5, api.ErrArg}, {0, 5, api.OK}, {65535, 5, api.OK}, {65536, 5, api.ErrArg},
		{5, -1, api.ErrArg}, {5, 0, api.OK}, {5, 64, api.OK}, {5, 65, api.ErrArg},
		{0, 0, api.OK}, {65535, 64, api.OK}, {-1, -1, api.ErrArg}, {65536, 65, api.ErrArg},
	} {
		if q, e := datagrams.New(c.most, c.room); e != c.want || (q != nil) != (e == api.OK) {
			t.Errorf("New(%d, %d) = %v, %d, not %d", c.most, c.room, q, int(e), int(c.want))
		}
	}
}

// What becomes of one queue is nothing to another.
func TestP22_1Apart(t *testing.T) {
	a, b := queue(t, 5, 2, "a"), queue(t, 5, 2)
	told(t, b, 0, 0)
	puts(t, b, "bcd")
	puts(t, b, "e")
	told(t, a, 1, 1)
	displaces(t, b, "f", "bcd")
	pushes(t, a, "gh")
	holds(t, b, "e", "f")
	holds(t, a, "a", "gh")
}

// A queue that is nil, or that no call made: nothing is done, whatever comes.
func TestP22_2None(t *testing.T) {
	var plain datagrams.Queue
	for _, q := range []*datagrams.Queue{nil, &plain, {}, new(datagrams.Queue)} {
		for range 2 {
			for _, b := range []string{"", "a", bytesOf(large), bytesOf(large + 1)} {
				refuses(t, q, b, api.ErrNil)
			}
			if e := q.Put(nil); e != api.ErrNil {
				t.Errorf("Put(nil) = %d", int(e))
			}
			if gone, is, e := q.Push(nil); gone != nil || is || e != api.ErrNil {
				t.Errorf("Push(nil) = %q, %v, %d", gone, is, int(e))
			}
			for _, n := range odd() {
				nothing(t, q, n)
			}
			told(t, q, 0, 0)
		}
	}
}

// A queue of empty datagrams without room is one that a call made, all the same.
func TestP22_2Least(t *testing.T) {
	q := queue(t, 0, 0)
	for range 2 {
		refuses(t, q, "", api.ErrFull)
		refuses(t, q, "a", api.ErrBig)
		holds(t, q)
	}
}
