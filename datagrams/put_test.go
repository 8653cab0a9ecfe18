package datagrams_test

import (
	"testing"

	"caravel/api"
)

// Nothing, most bytes and one more.
func TestP22_2Sizes(t *testing.T) {
	for _, most := range []int{0, 1, 2, 5, 1200, large - 1, large} {
		q := queue(t, most, 9)
		puts(t, q, "")
		puts(t, q, bytesOf(most))
		pushes(t, q, "")
		pushes(t, q, bytesOf(most))
		for _, more := range []int{most + 1, most + 2, 2*most + 1, large + 1, 1 << 20} {
			refuses(t, q, bytesOf(more), api.ErrBig)
		}
		holds(t, q, "", bytesOf(most), "", bytesOf(most))
		refuses(t, q, bytesOf(most+1), api.ErrBig)
		holds(t, q)
	}
}

// Bytes that are nil are a datagram without any.
func TestP22_2Nil(t *testing.T) {
	q := queue(t, 5, 1)
	if e := q.Put(nil); e != api.OK {
		t.Fatalf("Put(nil) = %d", int(e))
	}
	told(t, q, 1, 0)
	if gone, is, e := q.Push(nil); len(gone) > 0 || !is || e != api.OK {
		t.Fatalf("Push(nil) = %q, %v, %d", gone, is, int(e))
	}
	holds(t, q, "")
}

// Put takes as many as there is room for.
func TestP22_2PutFull(t *testing.T) {
	for room := range api.MaxQueue + 1 {
		q := queue(t, 5, room, letters(room)...)
		for range 3 {
			putFails(t, q, "", api.ErrFull)
			putFails(t, q, "z", api.ErrFull)
			putFails(t, q, "zzzzz", api.ErrFull)
		}
		holds(t, q, letters(room)...)
	}
}

// Where one is taken out there is room for one again, and for no more.
func TestP22_2PutAgain(t *testing.T) {
	all := letters(8)
	q := queue(t, 5, 3, all[:3]...)
	for i, b := range all[3:] {
		next(t, q, 5, all[i])
		puts(t, q, b)
		putFails(t, q, "z", api.ErrFull)
	}
	holds(t, q, all[5:]...)
}

// Push tells nothing as long as fewer wait than there is room for.
func TestP22_2PushRoom(t *testing.T) {
	for room := 1; room <= api.MaxQueue; room++ {
		q := queue(t, 5, room)
		for _, b := range letters(room) {
			pushes(t, q, b)
		}
		told(t, q, room, 1)
		displaces(t, q, "zz", "A")
		all := append(letters(room), "zz", "yyy")
		told(t, q, room, len(all[1])) // with a room of 1 that is the new one
		next(t, q, 5, all[1])
		pushes(t, q, "yyy")
		holds(t, q, all[2:]...)
	}
}

// Where room wait it takes the oldest out, and tells it whole, once; the others move up.
func TestP22_2PushFull(t *testing.T) {
	for room := 1; room <= api.MaxQueue; room++ {
		all := letters(room)
		q := queue(t, 5, room, all...)
		for i := range 3*room + 2 {
			b := bytesOf(i % 6)
			displaces(t, q, b, all[i])
			all = append(all, b)
			told(t, q, room, len(all[i+1]))
		}
		holds(t, q, all[len(all)-room:]...)
	}
}

// A room of one: each takes the one ahead of it out.
func TestP22_2PushOne(t *testing.T) {
	q := queue(t, 5, 1)
	pushes(t, q, "a")
	displaces(t, q, "bcdef", "a")
	displaces(t, q, "", "bcdef")
	displaces(t, q, "g", "")
	putFails(t, q, "h", api.ErrFull)
	next(t, q, 1, "g")
	pushes(t, q, "i")
	holds(t, q, "i")
}

// What goes is told whole, be it of no bytes or of as many as there may be.
func TestP22_2PushWhole(t *testing.T) {
	for _, size := range []int{0, 1, 2, 1200, large - 1, large} {
		q := queue(t, large, 2, bytesOf(size), "a")
		displaces(t, q, "b", bytesOf(size))
		displaces(t, q, bytesOf(size), "a")
		displaces(t, q, "c", "b")
		displaces(t, q, "d", bytesOf(size))
		holds(t, q, "c", "d")
	}
}

// Without room nothing is put, and nothing goes.
func TestP22_2NoRoom(t *testing.T) {
	for _, most := range []int{0, 1, 5, large} {
		q := queue(t, most, 0)
		for range 3 {
			refuses(t, q, "", api.ErrFull)
			refuses(t, q, bytesOf(most), api.ErrFull)
			refuses(t, q, bytesOf(most+1), api.ErrBig)
			holds(t, q)
		}
	}
}

// Where room wait and there are too many bytes: that is what is told, of Push too, and nothing goes.
func TestP22_2BigFirst(t *testing.T) {
	for _, most := range []int{0, 1, 5} {
		for _, room := range []int{0, 1, 2, api.MaxQueue} {
			var waits []string
			for range room {
				waits = append(waits, bytesOf(most))
			}
			q := queue(t, most, room, waits...)
			for _, more := range []int{most + 1, most + 2, large + 1} {
				refuses(t, q, bytesOf(more), api.ErrBig)
			}
			told(t, q, room, most*min(room, 1))
			holds(t, q, waits...)
		}
	}
}

// Behind an error nothing has changed, however often it is told.
func TestP22_2Unchanged(t *testing.T) {
	for taken := range 4 {
		q := queue(t, 3, 3, "a", "bb", "")
		all := []string{"a", "bb", "", "c", "dd", "eee"}
		for i := range taken {
			displaces(t, q, all[3+i], all[i])
		}
		for range 5 {
			putFails(t, q, "f", api.ErrFull)
			refuses(t, q, "four", api.ErrBig)
			told(t, q, 3, len(all[taken]))
		}
		displaces(t, q, "g", all[taken])
		holds(t, q, append(all[taken+1:taken+3:taken+3], "g")...)
	}
}
