package cubic_test

import (
	"math"
	"testing"

	"caravel/api"
	"caravel/cubic"
)

// wrongLost is what may not be lost so.
var wrongLost = []struct{ sent, now int }{
	{-1, 10}, {-2, 10}, {math.MinInt, 10}, {end + 1, 10}, {end + 2, 10}, {math.MaxInt, 10}, {end + 1, end + 1},
	{10, -1}, {10, -2}, {10, math.MinInt}, {10, end + 1}, {10, end + 2}, {10, math.MaxInt}, {0, -1}, {0, end + 1},
	{-1, -1}, {math.MinInt, math.MaxInt}, {math.MaxInt, math.MinInt}, {math.MaxInt, math.MaxInt},
}

// Behind what may not be nothing has changed.
func TestP16_3Wrong(t *testing.T) {
	for _, w := range states(t) {
		for _, c := range wrongLost {
			still(t, w, api.ErrArg, func() api.Errno { return w.Lost(c.sent, c.now) })
		}
	}
}

// What lies just within each bound is taken; sent may lie behind now.
func TestP16_3Bounds(t *testing.T) {
	for _, c := range []struct{ kind, low int }{{cubic.Reno, 6000}, {cubic.Cubic, 8400}} {
		for _, at := range []struct{ sent, now int }{{0, 0}, {0, end}, {end, end}, {end, 0}, {5, 4}, {5, 5}, {end - 1, end - 1}, {1, 1}} {
			w := begin(t, c.kind, 1200)
			lose(t, w, at.sent, at.now)
			told(t, w, c.low, c.low, at.now)
		}
	}
}

// A loss of what was sent when it began to recover, or before, is no further one; what was sent behind that is.
func TestP16_3Recovers(t *testing.T) {
	for _, c := range []struct{ kind, first, second int }{{cubic.Reno, 500000, 250000}, {cubic.Cubic, 700000, 490000}} {
		w := grown(t, c.kind, 1200, 1000000)
		lose(t, w, 7, 20)
		told(t, w, c.first, c.first, 20)
		for _, sent := range []int{0, 7, 19, 20} {
			for _, now := range []int{0, 20, 21, end} {
				still(t, w, api.OK, func() api.Errno { return w.Lost(sent, now) })
			}
		}
		lose(t, w, 21, 33)
		told(t, w, c.second, c.second, 33)
		lose(t, w, 34, 5) // times may go back: it recovers since now, whatever was before
		if _, _, recovers := w.Told(); recovers != 5 {
			t.Errorf("it recovers since %d", recovers)
		}
		before, _, _ := w.Told()
		lose(t, w, 6, 6)
		if is, slow, recovers := w.Told(); is >= before || slow != is || recovers != 6 {
			t.Errorf("%d, %d, %d behind %d", is, slow, recovers, before)
		}
	}
}

// A Reno has half, a cubic seven tenths, both rounded down; two packets are the least.
func TestP16_3Less(t *testing.T) {
	for _, c := range []struct{ kind, size, window, low int }{
		{cubic.Reno, 1200, 12000, 6000}, {cubic.Reno, 1200, 13201, 6600}, {cubic.Reno, 1200, 13200, 6600}, {cubic.Reno, 1200, most, most / 2},
		{cubic.Reno, 1200, most - 1, most/2 - 1}, {cubic.Reno, 5000, 20001, 10000}, {cubic.Reno, 5000, 20000, 10000}, {cubic.Reno, 5000, 19999, 10000},
		{cubic.Reno, 5000, 20002, 10001}, {cubic.Reno, 5000, 14720, 10000}, {cubic.Reno, 65535, 131070, 131070}, {cubic.Reno, 65535, 262142, 131071},
		{cubic.Cubic, 1200, 12000, 8400}, {cubic.Cubic, 1200, 12001, 8400}, {cubic.Cubic, 1200, 12002, 8401}, {cubic.Cubic, 1200, 12009, 8406},
		{cubic.Cubic, 1200, most, 751619276}, {cubic.Cubic, 10507, 30018, 21014}, {cubic.Cubic, 10507, 30020, 21014}, {cubic.Cubic, 10507, 30021, 21014},
		{cubic.Cubic, 10507, 30022, 21015}, {cubic.Cubic, 65535, 131070, 131070}, {cubic.Cubic, 65535, 187243, 131070}, {cubic.Cubic, 65535, 187244, 131070},
		{cubic.Cubic, 65535, 187245, 131071},
	} {
		w := grown(t, c.kind, c.size, c.window)
		lose(t, w, 5, 9)
		told(t, w, c.low, c.low, 9)
	}
	for _, kind := range []int{cubic.Reno, cubic.Cubic} { // it comes to two packets, and stays there
		w := grown(t, kind, 1200, most)
		for i := range 100 {
			before, _, _ := w.Told()
			lose(t, w, 2*i+1, 2*i+1)
			is, slow, recovers := w.Told()
			if is > before || is < 2400 || is == before && is != 2400 || slow != is || recovers != 2*i+1 {
				t.Fatalf("%d, %d, %d behind %d", is, slow, recovers, before)
			}
		}
		told(t, w, 2400, 2400, 199)
	}
}

// level asks where a cubic's next curve is flat: k milliseconds behind its beginning the window is there.
func level(t *testing.T, w *cubic.Window, k, peak int) {
	t.Helper()
	is, slow, recovers := w.Told()
	arrive(t, w, 0, recovers+1, recovers+1, 0)
	arrive(t, w, is, recovers+1, recovers+1+1000*k, 0)
	told(t, w, peak, slow, recovers)
}

// A cubic's peak: its bytes, but where they are below the peak that was, 17 / 20 of them.
func TestP16_3Peak(t *testing.T) {
	for _, c := range []struct{ millis, top, low, k, peak int }{
		{8549, 1000000, 700000, 8549, 1000000},       // at the peak
		{8549 - 128, 999999, 699999, 6786, 849999},   // one below it
		{8549 + 128, 1000001, 700000, 8549, 1000001}, // one above it
		{500, 749697, 524787, 6164, 637242},
		{13549, 1050000, 735000, 8690, 1050000},
	} {
		w := curved(t, 1200)
		arrive(t, w, 700000, 20001, 20000+1000*c.millis, 0)
		told(t, w, c.top, 700000, 10000)
		lose(t, w, 30000, 40000)
		told(t, w, c.low, c.low, 40000)
		level(t, w, c.k, c.peak)
	}
	w := fallen(t, 1200) // twice in a row, without a curve between
	lose(t, w, 10001, 20000)
	told(t, w, 490000, 490000, 20000)
	level(t, w, 6025, 595000)
	w = fallen(t, 1200)
	lose(t, w, 10001, 20000)
	lose(t, w, 20001, 30000)
	told(t, w, 343000, 343000, 30000)
	level(t, w, 5349, 416500)
}

// Two packets may lie above the peak that a loss leaves: then the next curve's peak is the window itself.
func TestP16_3PeakBelow(t *testing.T) {
	small := func(losses int) *cubic.Window {
		w := begin(t, cubic.Cubic, 1200)
		for i := range losses {
			lose(t, w, i+1, i+1)
		}
		told(t, w, 2400, 2400, losses)
		return w
	}
	for _, losses := range []int{6, 7, 9} { // the sixth leaves a peak of 2040, the seventh one of 2400
		w := small(losses)
		arrive(t, w, 2400, 50, 50, 1300000)
		told(t, w, 3454, 2400, losses)
	}
	w := small(5) // the fifth leaves one of 2448, which is 464 milliseconds away
	arrive(t, w, 2400, 50, 50, 1964000)
	told(t, w, 3600, 2400, 5)
	w = small(5)
	arrive(t, w, 2400, 50, 50, 1764000)
	told(t, w, 3502, 2400, 5)
}

// Behind a loss a curve begins anew, though one was gone along.
func TestP16_3CurveEnds(t *testing.T) {
	w := curved(t, 1200)
	arrive(t, w, 700000, 20001, 20000+8549000, 0)
	told(t, w, 1000000, 700000, 10000)
	lose(t, w, 20001, 9000000)
	told(t, w, 700000, 700000, 9000000)
	arrive(t, w, 700000, 9500000, 9500000, 1000000)
	told(t, w, 793506, 700000, 9000000)
}

// Collapse: two packets, and nothing recovers; slow stays, and up to it all that arrives lets it grow.
func TestP16_3Collapse(t *testing.T) {
	for _, c := range []struct{ kind, slow int }{{cubic.Reno, 500000}, {cubic.Cubic, 700000}} {
		for _, size := range []int{1200, 1471, 65535} {
			w := begin(t, c.kind, size)
			w.Collapse()
			told(t, w, 2*size, -1, -1)
			arrive(t, w, 5, 0, 0, 0)
			told(t, w, 2*size+5, -1, -1)
			w = grown(t, c.kind, size, 1000000)
			lose(t, w, 5, 10000)
			told(t, w, c.slow, c.slow, 10000)
			for range 2 {
				w.Collapse()
				told(t, w, 2*size, c.slow, -1)
			}
			arrive(t, w, 7, 0, 0, 0) // sent before it recovered
			told(t, w, 2*size+7, c.slow, -1)
			lose(t, w, 0, 4) // as is this
			told(t, w, 2*size, 2*size, 4)
		}
	}
}

// Collapse ends a cubic's curve, and leaves its peak.
func TestP16_3CollapseCurve(t *testing.T) {
	again := func(bytes int) *cubic.Window {
		w := curved(t, 1200)
		arrive(t, w, 700000, 20001, 520000, 0)
		told(t, w, 749697, 700000, 10000)
		w.Collapse()
		told(t, w, 2400, 700000, -1)
		arrive(t, w, bytes-2400, 0, 500000, 0)
		told(t, w, bytes, 700000, -1)
		return w
	}
	w := again(800000)
	arrive(t, w, 800000, 0, 1600000, 1000000) // the new curve begins here, and is flat 7469 milliseconds later
	told(t, w, 870058, 700000, -1)
	w = again(800000)
	level(t, w, 7469, 1000000)
	w = again(1050976) // above the peak: it is the window now
	arrive(t, w, 0, 0, 600000, 0)
	arrive(t, w, 1<<20, 0, 4600000, 0)
	told(t, w, 1081625, 700000, -1)
}
