package cubic_test

import (
	"math"
	"testing"

	"caravel/api"
	"caravel/cubic"
)

type acked struct{ bytes, sent, now, rtt int }

// wrongAcked is what may not arrive so.
var wrongAcked = []acked{
	{-1, 5, 10, 5}, {-2, 5, 10, 5}, {math.MinInt, 5, 10, 5},
	{1<<20 + 1, 5, 10, 5}, {1<<20 + 2, 5, 10, 5}, {1 << 32, 5, 10, 5}, {math.MaxInt, 5, 10, 5},
	{1200, -1, 10, 5}, {1200, -2, 10, 5}, {1200, math.MinInt, 10, 5},
	{1200, end + 1, end + 1, 5}, {1200, end + 1, end, 5}, {1200, math.MaxInt, math.MaxInt, 5}, {1200, math.MaxInt, end, 5},
	{1200, 5, end + 1, 5}, {1200, 5, end + 2, 5}, {1200, 5, 1 << 62, 5}, {1200, 5, math.MaxInt, 5},
	{1200, 0, -1, 5}, {1200, -1, -1, 5}, {1200, 5, -1, 5}, {1200, math.MinInt, math.MinInt, 5}, {1200, 5, math.MinInt, 5},
	{1200, 5, 10, -1}, {1200, 5, 10, -2}, {1200, 5, 10, math.MinInt},
	{1200, 5, 10, end + 1}, {1200, 5, 10, end + 2}, {1200, 5, 10, math.MaxInt},
	{1200, 11, 10, 5}, {1200, 1, 0, 5}, {1200, end, end - 1, 5}, {1200, end, 0, 5},
	{-1, -1, -1, -1}, {math.MaxInt, math.MaxInt, math.MaxInt, math.MaxInt}, {math.MinInt, math.MinInt, math.MinInt, math.MinInt},
	{0, 11, 10, 0}, {0, 0, 0, -1}, {0, -1, 0, 0},
}

// states tells windows in each state: new ones, behind a loss, along the curve, collapsed, and as great as may be.
func states(t *testing.T) []*cubic.Window {
	var all []*cubic.Window
	for _, kind := range []int{cubic.Reno, cubic.Cubic} {
		lost := grown(t, kind, 1200, 1000000)
		lose(t, lost, 1, 3)
		along := grown(t, kind, 1200, 1000000)
		lose(t, along, 1, 3)
		arrive(t, along, 100000, 4, 4, 1000)
		low := grown(t, kind, 1200, 1000000)
		lose(t, low, 1, 3)
		low.Collapse()
		all = append(all, begin(t, kind, 1200), lost, along, low, grown(t, kind, 1200, most))
	}
	return all
}

// Behind what may not be nothing has changed.
func TestP16_2Wrong(t *testing.T) {
	for _, w := range states(t) {
		for _, c := range wrongAcked {
			for _, full := range []bool{false, true} {
				still(t, w, api.ErrArg, func() api.Errno { return w.Acked(c.bytes, c.sent, c.now, c.rtt, full) })
			}
		}
	}
}

// What lies just within each bound is taken.
func TestP16_2Bounds(t *testing.T) {
	for _, kind := range []int{cubic.Reno, cubic.Cubic} {
		for _, c := range []struct {
			acked
			window int
		}{
			{acked{0, 5, 10, 5}, 12000}, {acked{1, 5, 10, 5}, 12001}, {acked{1<<20 - 1, 5, 10, 5}, 1060575}, {acked{1 << 20, 5, 10, 5}, 1060576},
			{acked{7, 0, 0, 0}, 12007}, {acked{7, 0, 0, end}, 12007}, {acked{7, 0, end, 0}, 12007}, {acked{7, end, end, end}, 12007},
			{acked{7, end - 1, end, end - 1}, 12007}, {acked{7, end - 1, end - 1, 1}, 12007}, {acked{7, 10, 10, 5}, 12007}, {acked{7, 9, 10, 5}, 12007},
		} {
			w := begin(t, kind, 1200)
			arrive(t, w, c.bytes, c.sent, c.now, c.rtt)
			told(t, w, c.window, -1, -1)
		}
	}
}

// A window that was not used does not grow, and no curve begins.
func TestP16_2NotFull(t *testing.T) {
	for _, w := range states(t) {
		for _, c := range []acked{{1200, 5, 10, 5}, {0, 5, 5, 0}, {1 << 20, 4, 4, 0}, {1 << 20, end, end, end}, {1 << 20, 0, end, 0}} {
			still(t, w, api.OK, func() api.Errno { return w.Acked(c.bytes, c.sent, c.now, c.rtt, false) })
		}
	}
}

// What was sent when it began to recover, or before, does not let it grow; what was sent behind that does.
func TestP16_2Recovers(t *testing.T) {
	for _, c := range []struct{ kind, grown int }{{cubic.Reno, 501200}, {cubic.Cubic, 793506}} {
		w := grown(t, c.kind, 1200, 1000000)
		lose(t, w, 1, 20000)
		for _, sent := range []int{0, 1, 2, 19999, 20000} {
			for _, now := range []int{20000, 20001, end} {
				still(t, w, api.OK, func() api.Errno { return w.Acked(500000, sent, now, 10, true) })
			}
		}
		is, _, _ := w.Told()
		arrive(t, w, is, 20001, 20001, 1000000)
		told(t, w, c.grown, is, 20000)
	}
	for _, kind := range []int{cubic.Reno, cubic.Cubic} {
		w := begin(t, kind, 1200)
		lose(t, w, 0, end) // nothing can be sent behind that
		still(t, w, api.OK, func() api.Errno { return w.Acked(1200, end, end, 0, true) })
		w = begin(t, kind, 65535)
		lose(t, w, 0, 0)
		still(t, w, api.OK, func() api.Errno { return w.Acked(1200, 0, 0, 0, true) })
		arrive(t, w, 131070, 1, 1, 0)
		if is, _, _ := w.Told(); is <= 131070 {
			t.Errorf("it is %d", is)
		}
	}
}

// Below slow it grows by all that arrives, also beyond slow; from slow on it grows slowly.
func TestP16_2Slow(t *testing.T) {
	for _, c := range []struct{ kind, slow, at, beyond int }{{cubic.Reno, 6000, 6240, 7399}, {cubic.Cubic, 8400, 8992, 10027}} {
		low := func(bytes int) *cubic.Window {
			w := begin(t, c.kind, 1200)
			lose(t, w, 1, 3)
			told(t, w, c.slow, c.slow, 3)
			w.Collapse()
			told(t, w, 2400, c.slow, -1)
			arrive(t, w, bytes-2400, 0, 0, 0)
			told(t, w, bytes, c.slow, -1)
			return w
		}
		w := low(2400)
		arrive(t, w, 1200, 0, 0, 0)
		told(t, w, 3600, c.slow, -1)
		w = low(c.slow - 1)
		arrive(t, w, 1, 0, 0, 0)
		told(t, w, c.slow, c.slow, -1)
		arrive(t, w, 1200, 0, 0, 3000000)
		told(t, w, c.at, c.slow, -1)
		w = low(c.slow - 1)
		arrive(t, w, 1200, 0, 0, 0)
		told(t, w, c.slow+1199, c.slow, -1)
		arrive(t, w, 1200, 0, 0, 3000000)
		told(t, w, c.beyond, c.slow, -1)
		w = low(c.slow - 1)
		arrive(t, w, 1<<20, 0, 0, 0)
		told(t, w, c.slow-1+(1<<20), c.slow, -1)
	}
	for _, kind := range []int{cubic.Reno, cubic.Cubic} { // without slow, however great it is
		w := begin(t, kind, 1200)
		for i := range 100 {
			told(t, w, 12000+i*777777, -1, -1)
			arrive(t, w, 777777, i, i, i)
		}
	}
}

// A Reno from slow on: a packet more for a window that arrived, rounded down.
func TestP16_2Reno(t *testing.T) {
	for _, c := range []struct{ size, window, bytes, grown int }{
		{1200, 6600, 0, 6600}, {1200, 6600, 1, 6600}, {1200, 6600, 5, 6600}, {1200, 6600, 6, 6601}, {1200, 6600, 1200, 6818},
		{1200, 6600, 6599, 7799}, {1200, 6600, 6600, 7800},
		{1200, 6000, 1 << 20, 215715}, {65535, 131070, 1 << 20, 655358}, {65535, 1 << 29, 1 << 20, 536871039}, {1200, 1 << 29, 1 << 20, 536870914},
	} {
		for _, at := range []acked{{c.bytes, 2, 2, 0}, {c.bytes, 2, end, end}, {c.bytes, end, end, 5}} { // by no time
			w := grown(t, cubic.Reno, c.size, 2*c.window)
			lose(t, w, 1, 1)
			told(t, w, c.window, c.window, 1)
			arrive(t, w, at.bytes, at.sent, at.now, at.rtt)
			told(t, w, c.grown, c.window, 1)
		}
	}
	w := begin(t, cubic.Reno, 1200)
	for i := range 3 {
		lose(t, w, i+1, i+1)
	}
	told(t, w, 2400, 2400, 3)
	arrive(t, w, 1<<20, 4, 4, 0)
	told(t, w, 526688, 2400, 3)
	w = grown(t, cubic.Reno, 1200, 13200)
	lose(t, w, 1, 1)
	for _, want := range []int{6818, 7029, 7233, 7432, 7625} { // each by the window that is there
		arrive(t, w, 1200, 2, 2, 0)
		told(t, w, want, 6600, 1)
	}
}

// No window passes 2^30 bytes: neither while it is below slow, nor slowly.
func TestP16_2Greatest(t *testing.T) {
	for _, kind := range []int{cubic.Reno, cubic.Cubic} {
		for _, below := range []int{0, 1, 1<<20 - 1, 1 << 20, 1<<20 + 1} {
			w := grown(t, kind, 1200, most-below)
			arrive(t, w, 1<<20, 0, 0, 0)
			told(t, w, min(most, most-below+(1<<20)), -1, -1)
			arrive(t, w, 1<<20, 0, 0, 0)
			told(t, w, most, -1, -1)
		}
		w := grown(t, kind, 65535, most)
		lose(t, w, 1, 1)
		is, slow, _ := w.Told()
		for is < most {
			arrive(t, w, 1<<20, end, end, end)
			was := is
			if is, _, _ = w.Told(); is <= was || is > most {
				t.Fatalf("%d behind %d", is, was)
			}
		}
		for range 3 {
			arrive(t, w, 1<<20, end, end, end)
			told(t, w, most, slow, 1)
		}
		arrive(t, w, 0, end, end, end)
		told(t, w, most, slow, 1)
	}
}
