package cubic_test

import (
	"math"
	"testing"

	"caravel/api"
	"caravel/cubic"
)

// The chapter's example.
func TestP16_4Example(t *testing.T) {
	w := begin(t, cubic.Reno, 1200)
	told(t, w, 12000, -1, -1)
	arrive(t, w, 1200, 0, 10, 10)
	told(t, w, 13200, -1, -1)
	lose(t, w, 5, 20)
	told(t, w, 6600, 6600, 20)
	lose(t, w, 15, 30)
	told(t, w, 6600, 6600, 20)
	arrive(t, w, 1200, 25, 40, 10)
	told(t, w, 6818, 6600, 20)
	if cubic.Root(27) != 3 || cubic.Root(26) != 2 {
		t.Errorf("Root: %d, %d", cubic.Root(27), cubic.Root(26))
	}
}

// What a window has at first: ten packets, but at most 14720 bytes, but at least two packets.
func TestP16_1New(t *testing.T) {
	if cubic.Reno != 0 || cubic.Cubic != 1 {
		t.Error("kinds")
	}
	for _, c := range []struct{ size, first int }{
		{1200, 12000}, {1201, 12010}, {1471, 14710}, {1472, 14720}, {1473, 14720}, {4000, 14720},
		{7359, 14720}, {7360, 14720}, {7361, 14722}, {9000, 18000}, {65534, 131068}, {65535, 131070},
	} {
		for _, kind := range []int{cubic.Reno, cubic.Cubic} {
			told(t, begin(t, kind, c.size), c.first, -1, -1)
		}
	}
}

func TestP16_1NewWrong(t *testing.T) {
	kinds := []int{math.MinInt, -2, -1, 2, 3, 256, 1 << 32, math.MaxInt}
	sizes := []int{math.MinInt, -65535, -1200, -1, 0, 1, 1199, 65536, 65537, 1<<32 + 1200, math.MaxInt}
	refused := func(kind, size int) {
		t.Helper()
		if w, e := cubic.New(kind, size); w != nil || e != api.ErrArg {
			t.Errorf("New(%d, %d) = %v, %d", kind, size, w, int(e))
		}
	}
	for _, kind := range kinds {
		refused(kind, 1200)
		refused(kind, 65535)
		for _, size := range sizes {
			refused(kind, size)
		}
	}
	for _, size := range sizes {
		refused(cubic.Reno, size)
		refused(cubic.Cubic, size)
	}
}

// What becomes of one window is nothing to another.
func TestP16_1Apart(t *testing.T) {
	a, b := begin(t, cubic.Cubic, 1200), begin(t, cubic.Cubic, 1200)
	arrive(t, a, 8000, 0, 0, 0)
	told(t, b, 12000, -1, -1)
	lose(t, b, 3, 4)
	told(t, a, 20000, -1, -1)
	told(t, b, 8400, 8400, 4)
	a.Collapse()
	told(t, b, 8400, 8400, 4)
}

const greatestRoot = 2097151 // the next one's cube is 2^63

func TestP16_1Root(t *testing.T) {
	for _, c := range []struct{ n, root int }{
		{math.MinInt, 0}, {math.MinInt + 1, 0}, {-1 << 62, 0}, {-27, 0}, {-8, 0}, {-2, 0}, {-1, 0}, {0, 0},
		{1, 1}, {2, 1}, {7, 1}, {8, 2}, {9, 2}, {26, 2}, {27, 3}, {28, 3}, {63, 3}, {64, 4}, {999, 9}, {1000, 10},
		{625000000000, 8549}, {999999999999, 9999}, {1000000000000, 10000}, {1<<60 - 1, 1<<20 - 1}, {1 << 60, 1 << 20},
		{9223358842721533950, greatestRoot - 1}, {9223358842721533951, greatestRoot}, {9223358842721533952, greatestRoot},
		{math.MaxInt - 1, greatestRoot}, {math.MaxInt, greatestRoot},
	} {
		if got := cubic.Root(c.n); got != c.root {
			t.Errorf("Root(%d) = %d, not %d", c.n, got, c.root)
		}
	}
}

// Each cube that there is, the number ahead of it and the one behind it.
func TestP16_1RootOfCubes(t *testing.T) {
	for r := 1; r <= greatestRoot; r++ {
		cube := r * r * r
		if cubic.Root(cube) != r || cubic.Root(cube-1) != r-1 || cubic.Root(cube+1) != r {
			t.Fatalf("%d: %d, %d, %d", r, cubic.Root(cube-1), cubic.Root(cube), cubic.Root(cube+1))
		}
	}
}

// A window that is nil, or that no call made: nothing is done, whatever comes.
func TestP16_4None(t *testing.T) {
	var plain cubic.Window
	for _, w := range []*cubic.Window{nil, &plain, {}, new(cubic.Window)} {
		for range 2 {
			told(t, w, 0, 0, 0)
			for _, full := range []bool{false, true} {
				if e := w.Acked(1200, 0, 10, 10, full); e != api.ErrNil {
					t.Errorf("Acked = %d", int(e))
				}
				for _, c := range wrongAcked {
					if e := w.Acked(c.bytes, c.sent, c.now, c.rtt, full); e != api.ErrNil {
						t.Errorf("Acked(%v) = %d", c, int(e))
					}
				}
			}
			if e := w.Lost(5, 20); e != api.ErrNil {
				t.Errorf("Lost = %d", int(e))
			}
			for _, c := range wrongLost {
				if e := w.Lost(c.sent, c.now); e != api.ErrNil {
					t.Errorf("Lost(%v) = %d", c, int(e))
				}
			}
			w.Collapse()
		}
	}
	if plain != (cubic.Window{}) {
		t.Error("a plain one was changed")
	}
}

// What is told does not change by being told.
func TestP16_4Told(t *testing.T) {
	for _, kind := range []int{cubic.Reno, cubic.Cubic} {
		w := grown(t, kind, 1200, 1000000)
		lose(t, w, 5, 10)
		arrive(t, w, 100000, 11, 12, 0)
		before := *w
		a, b, c := w.Told()
		for range 3 {
			told(t, w, a, b, c)
		}
		if *w != before {
			t.Error("Told changes something")
		}
	}
}
