package datagrams_test

import (
	"testing"
)

// Where none waits there is none, whatever is asked for.
func TestP22_3None(t *testing.T) {
	for _, room := range []int{0, 1, 5} {
		q := queue(t, 5, room)
		for _, most := range odd() {
			nothing(t, q, most)
		}
		holds(t, q)
	}
}

// One too few, just enough and more.
func TestP22_3Sizes(t *testing.T) {
	for _, size := range []int{1, 2, 5, 1200, large - 1, large} {
		for _, most := range []int{low, -size, -1, 0, size / 2, size - 1} {
			q := queue(t, large, 2, bytesOf(size), "b")
			nothing(t, q, most)
			nothing(t, q, most)
			next(t, q, size, bytesOf(size))
			holds(t, q, "b")
		}
		for _, most := range []int{size, size + 1, large, large + 1, 1 << 32, huge} {
			q := queue(t, large, 2, bytesOf(size), "b")
			next(t, q, most, bytesOf(size))
			holds(t, q, "b")
		}
	}
}

// A datagram of no bytes is one: where there is room for no bytes it is told, and with less than that it is not.
func TestP22_3Empty(t *testing.T) {
	for _, most := range []int{0, 1, 5, large, huge} {
		q := queue(t, 5, 3, "", "", "a")
		for _, less := range []int{-1, -2, low} {
			nothing(t, q, less)
		}
		told(t, q, 3, 0)
		next(t, q, most, "")
		told(t, q, 2, 0)
		next(t, q, most, "")
		told(t, q, 1, 1)
		nothing(t, q, 0)
		next(t, q, 1, "a")
		told(t, q, 0, 0)
		nothing(t, q, most)
	}
}

// The oldest alone counts: a shorter one does not go ahead of it.
func TestP22_3Oldest(t *testing.T) {
	q := queue(t, 5, 4, "abc", "d", "", "ef")
	for _, most := range []int{0, 1, 2} {
		nothing(t, q, most)
	}
	next(t, q, 3, "abc")
	nothing(t, q, 0)
	next(t, q, 1, "d")
	nothing(t, q, -1)
	next(t, q, 0, "")
	nothing(t, q, 1)
	next(t, q, 2, "ef")
	nothing(t, q, 5)
}

// Told: of none, of one and of several.
func TestP22_3Told(t *testing.T) {
	q := queue(t, 5, 4)
	told(t, q, 0, 0)
	for range 3 {
		puts(t, q, "abcd")
		told(t, q, 1, 4)
		puts(t, q, "")
		told(t, q, 2, 4)
		pushes(t, q, "e")
		pushes(t, q, "fg")
		told(t, q, 4, 4)
		displaces(t, q, "hijkl", "abcd")
		told(t, q, 4, 0)
		next(t, q, 5, "")
		told(t, q, 3, 1)
		next(t, q, 5, "e")
		told(t, q, 2, 2)
		next(t, q, 5, "fg")
		told(t, q, 1, 5)
		told(t, q, 1, 5)
		next(t, q, 5, "hijkl")
		told(t, q, 0, 0)
	}
}
