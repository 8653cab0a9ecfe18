package rtt_test

import (
	"math"
	"testing"

	"caravel/api"
	"caravel/rtt"
)

// The chapter's example.
func TestP14_3Example(t *testing.T) {
	r := begin(t, 25000)
	waits(t, r, 0, false, 999000)
	waits(t, r, 0, true, 1024000)
	samples(t, r, 100000, 0, true)
	told(t, r, 100000, 100000, 100000, 50000)
	samples(t, r, 140000, 20000, true)
	told(t, r, 140000, 100000, 102500, 42500)
	late(t, r, 157500)
}

func TestP14_1New(t *testing.T) {
	for _, most := range []int{0, 1, 25000, 1 << 32, end - 1, end} {
		r := begin(t, most)
		told(t, r, 0, 0, 333000, 166500)
		waits(t, r, 0, false, 999000)
		waits(t, r, 0, true, 999000+most)
		late(t, r, 374625)
	}
	for _, most := range []int{math.MinInt, math.MinInt + 1, -end, -2, -1, end + 1, end + 2, 1 << 62, math.MaxInt} {
		if r, e := rtt.New(most); r != nil || e != api.ErrArg {
			t.Errorf("New(%d) = %v, %d", most, r, int(e))
		}
	}
}

// What one takes is nothing to another.
func TestP14_1Apart(t *testing.T) {
	a, b := begin(t, 10), begin(t, 20)
	samples(t, a, 8000, 0, true)
	told(t, b, 0, 0, 333000, 166500)
	samples(t, b, 400, 0, true)
	samples(t, b, 400, 0, true)
	told(t, a, 8000, 8000, 8000, 4000)
	told(t, b, 400, 400, 400, 150)
	waits(t, a, 0, true, 8000+16000+10)
	waits(t, b, 0, true, 400+1000+20)
}

// wrong are samples that may not be.
var wrong = []struct{ took, waited int }{
	{-1, 0}, {-2, 5}, {-end, 0}, {math.MinInt, 0},
	{end + 1, 0}, {end + 2, 5}, {1 << 62, 0}, {math.MaxInt, 0},
	{0, -1}, {5, -2}, {end, -1}, {5, -end}, {5, math.MinInt},
	{-1, -1}, {end + 1, -1}, {math.MinInt, math.MinInt}, {math.MaxInt, math.MinInt}, {math.MinInt, math.MaxInt},
}

// Behind what may not be nothing has changed: the next sample counts as if it had not come, the first one as the first.
func TestP14_2Wrong(t *testing.T) {
	refuseAll := func(r *rtt.Rtt, want ...int) {
		t.Helper()
		for _, w := range wrong {
			for _, known := range []bool{false, true} {
				refuses(t, r, w.took, w.waited, known, api.ErrArg)
				told(t, r, want...)
			}
		}
	}
	r := begin(t, 25)
	refuseAll(r, 0, 0, 333000, 166500)
	waits(t, r, 0, true, 999025)
	late(t, r, 374625)
	samples(t, r, 4000, 99, true)
	refuseAll(r, 4000, 4000, 4000, 2000)
	waits(t, r, 0, true, 12025)
	late(t, r, 4500)
	samples(t, r, 4800, 0, true)
	refuseAll(r, 4800, 4000, 4100, 1700)
}

// The first sample: how long the peer waited does not count, whatever it is.
func TestP14_2First(t *testing.T) {
	for _, most := range []int{0, 25, end} {
		for _, waited := range []int{0, 1, 24, 25, 26, end, end + 1, math.MaxInt} {
			for _, known := range []bool{false, true} {
				for _, took := range []int{0, 1, 2, 3, 999, 333000, 333001, end - 1, end} {
					r := begin(t, most)
					samples(t, r, took, waited, known)
					told(t, r, took, took, took, took/2)
				}
			}
		}
	}
}

// A sample of 0 is one, too: behind it further ones come, and the estimate is one that a call made.
func TestP14_2FirstIsZero(t *testing.T) {
	r := begin(t, 0)
	samples(t, r, 0, 0, true)
	told(t, r, 0, 0, 0, 0)
	waits(t, r, 0, true, 1000)
	late(t, r, 1000)
	refuses(t, r, -1, 0, true, api.ErrArg)
	samples(t, r, 0, 0, true)
	told(t, r, 0, 0, 0, 0)
	waits(t, r, 1, true, 2000)
	samples(t, r, 80, 0, true)
	told(t, r, 80, 0, 10, 20)
}

// A further sample, behind a first one of 1000, with most 100: smooth was 1000, vary 500.
func TestP14_2Further(t *testing.T) {
	for _, c := range []struct {
		name                string
		took, waited        int
		known               bool
		least, smooth, vary int
	}{
		{"alike", 1000, 0, true, 1000, 1000, 375},
		{"longer", 1400, 0, true, 1000, 1050, 475},
		{"shorter", 600, 0, true, 600, 950, 475},
		{"rounded down", 1007, 0, true, 1000, 1000, 376},
		{"rounded up to the next", 1008, 0, true, 1000, 1001, 377},
		{"shorter, rounded down", 999, 0, true, 999, 999, 375},
		{"it waited below most", 1400, 80, true, 1000, 1040, 455},
		{"it waited for most", 1400, 100, true, 1000, 1037, 450},
		{"it waited longer than most: as most", 1400, 101, true, 1000, 1037, 450},
		{"it waited very long: as most", 1400, math.MaxInt, true, 1000, 1037, 450},
		{"not known, below most", 1400, 80, false, 1000, 1040, 455},
		{"not known, most", 1400, 100, false, 1000, 1037, 450},
		{"not known, longer than most", 1400, 101, false, 1000, 1037, 449},
		{"not known, much longer than most", 1400, 300, false, 1000, 1012, 400},
		{"not known, all that is beyond least", 1400, 400, false, 1000, 1000, 375},
		{"not known, one more than that", 1400, 401, false, 1000, 1050, 475},
		{"not known, all of it", 1400, 1400, false, 1000, 1050, 475},
		{"not known, very long", 1400, math.MaxInt, false, 1000, 1050, 475},
		{"one below least and the wait", 1079, 80, true, 1000, 1009, 394},
		{"just least and the wait", 1080, 80, true, 1000, 1000, 375},
		{"one above least and the wait", 1081, 80, true, 1000, 1000, 375},
		{"eight above least and the wait", 1088, 80, true, 1000, 1001, 377},
		{"one below least and most", 1099, 500, true, 1000, 1012, 399},
		{"just least and most", 1100, 500, true, 1000, 1000, 375},
		{"eight above least and most", 1108, 500, true, 1000, 1001, 377},
		{"the new least is the one that counts", 920, 80, true, 920, 990, 395},
		{"the new least, without a wait", 920, 0, true, 920, 990, 395},
		{"nothing", 0, 0, true, 0, 875, 625},
		{"nothing, and a wait", 0, 50, true, 0, 875, 625},
	} {
		r := begin(t, 100)
		samples(t, r, 1000, 0, false)
		samples(t, r, c.took, c.waited, c.known)
		last, least, smooth, vary := r.Told()
		if last != c.took || least != c.least || smooth != c.smooth || vary != c.vary {
			t.Errorf("%s: Told() = %d, %d, %d, %d", c.name, last, least, smooth, vary)
		}
	}
}

// Without a delay that the peer may have, no wait counts, once that is known.
func TestP14_2MostAtTheEdges(t *testing.T) {
	r := begin(t, 0)
	samples(t, r, 1000, 0, true)
	samples(t, r, 1800, 300, true)
	told(t, r, 1800, 1000, 1100, 575)
	r = begin(t, 0)
	samples(t, r, 1000, 0, true)
	samples(t, r, 1800, 320, false)
	told(t, r, 1800, 1000, 1060, 495)
	r = begin(t, end)
	samples(t, r, 1000, 0, true)
	samples(t, r, 1800, 320, true)
	told(t, r, 1800, 1000, 1060, 495)
	samples(t, r, end, end-1000, true) // all of most but a little
	told(t, r, end, 1000, 1052, 386)
	samples(t, r, end, end, true)
	told(t, r, end, 1000, (7*1052+end)/8, (3*386+end-1052)/4)
}

// The greatest numbers: no sum leaves its range.
func TestP14_2Greatest(t *testing.T) {
	for _, known := range []bool{false, true} {
		p := newPair(t, end)
		for _, took := range []int{end, end, 0, end, 0, 0, 0, end, end, end - 1, 1, end} {
			for _, waited := range []int{0, 1, end - 1, end, end + 1, math.MaxInt - end, math.MaxInt - 1, math.MaxInt} {
				p.sample(took, waited, known)
			}
		}
	}
	p := newPair(t, end)
	p.sample(end, 0, true)
	for range 100 { // as far apart as may be, until vary is as great as it comes
		p.sample(0, 0, true)
		p.sample(end, 0, true)
	}
}

// Samples that are alike but for what is known: told apart by most alone.
func TestP14_2KnownChanges(t *testing.T) {
	p := newPair(t, 50)
	p.sample(1000, 500, false)
	for i := range 40 {
		p.sample(1000+i*20, i*15, i%2 == 0)
	}
}
