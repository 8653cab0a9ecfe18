package rtt_test

import (
	"math"
	"testing"

	"caravel/api"
	"caravel/rtt"
)

// Ahead of the first sample last and least are 0; behind each one they tell what came.
func TestP14_3Told(t *testing.T) {
	r := begin(t, 25)
	for range 3 {
		told(t, r, 0, 0, 333000, 166500) // looks change nothing
		waits(t, r, 3, true, 8*999025)
		late(t, r, 374625)
	}
	for _, c := range []struct{ took, least, smooth, vary int }{
		{8000, 8000, 8000, 4000},
		{8800, 8000, 8100, 3200},
		{7300, 7300, 8000, 2600},
		{8000, 7300, 8000, 1950},
		{0, 0, 7000, 3462},
		{15000, 0, 8000, 4596},
	} {
		samples(t, r, c.took, 0, true)
		for range 2 {
			told(t, r, c.took, c.least, c.smooth, c.vary)
			waits(t, r, 0, false, c.smooth+4*c.vary)
			late(t, r, max(c.smooth, c.took)*9/8)
		}
	}
}

// How often it is doubled: from 0 to 10, what lies beside that counts as the closest.
func TestP14_3WaitTimes(t *testing.T) {
	r := begin(t, 700)
	samples(t, r, 5000, 0, true)
	for _, c := range []struct{ times, factor int }{
		{math.MinInt, 1}, {math.MinInt + 1, 1}, {-64, 1}, {-2, 1}, {-1, 1}, {0, 1},
		{1, 2}, {2, 4}, {3, 8}, {4, 16}, {5, 32}, {6, 64}, {7, 128}, {8, 256}, {9, 512}, {10, 1024},
		{11, 1024}, {12, 1024}, {63, 1024}, {64, 1024}, {end, 1024}, {math.MaxInt - 1, 1024}, {math.MaxInt, 1024},
	} {
		waits(t, r, c.times, false, 15000*c.factor)
		waits(t, r, c.times, true, 15700*c.factor)
	}
}

// Four times vary counts as at least 1000.
func TestP14_3WaitVary(t *testing.T) {
	for _, c := range []struct{ took, wait int }{
		{0, 1000}, {1, 1001}, {499, 1499}, {500, 1500}, {501, 1501}, // vary 250 and below
		{502, 502 + 1004}, {503, 503 + 1004}, {504, 504 + 1008}, {1000, 3000}, {end, 3 * end},
	} {
		r := begin(t, 33)
		samples(t, r, c.took, 0, true)
		for _, times := range []int{0, 1, 10} {
			waits(t, r, times, false, c.wait<<times)
			waits(t, r, times, true, (c.wait+33)<<times)
		}
	}
}

// The longest wait, whose vary is nearly MaxTime.
func TestP14_3WaitGreatest(t *testing.T) {
	r := begin(t, end)
	samples(t, r, end, 0, true)
	waits(t, r, 10, true, 4*end<<10)
	p := newPair(t, end)
	for range 20 {
		p.sample(end, 0, true)
	}
	for range 10 {
		p.sample(0, 0, true)
	}
	for range 10 {
		p.sample(end, 0, true)
	}
	if n := p.r.Wait(math.MaxInt, true); n < 3*end<<10 {
		t.Errorf("Wait = %d", n)
	}
}

// Late hangs on the greater one of smooth and last, and is at least 1000.
func TestP14_3Late(t *testing.T) {
	for _, c := range []struct{ took, late int }{
		{0, 1000}, {1, 1000}, {887, 1000}, {888, 1000}, {889, 1000}, // 9 * 889 / 8 is 1000.125
		{890, 1001}, {896, 1008}, {1000, 1125}, {1001, 1126}, {80000, 90000}, {end, end + end/8},
	} {
		r := begin(t, 0)
		samples(t, r, c.took, 0, true)
		late(t, r, c.late)
	}
	r := begin(t, 0)
	samples(t, r, 8000, 0, true)
	samples(t, r, 0, 0, true) // smooth is greater: 7000
	late(t, r, 7875)
	samples(t, r, 7008, 0, true) // last is greater: smooth is 7001
	late(t, r, 7884)
	samples(t, r, 9000, 2000, false) // last itself, not what is left of it
	late(t, r, 10125)
	r = begin(t, 0)
	samples(t, r, 880, 0, true)
	samples(t, r, 0, 0, true)
	late(t, r, 1000)
}

// An estimate that is nil, or that no call made: nothing is done.
func TestP14_3None(t *testing.T) {
	var plain rtt.Rtt
	for _, r := range []*rtt.Rtt{nil, &plain, {}, new(rtt.Rtt)} {
		for range 2 {
			told(t, r, 0, 0, 0, 0)
			for _, times := range []int{math.MinInt, 0, 3, math.MaxInt} {
				waits(t, r, times, false, 0)
				waits(t, r, times, true, 0)
			}
			late(t, r, 0)
			for _, known := range []bool{false, true} {
				refuses(t, r, 0, 0, known, api.ErrNil)
				refuses(t, r, 100, 20, known, api.ErrNil)
				for _, w := range wrong {
					refuses(t, r, w.took, w.waited, known, api.ErrNil)
				}
			}
		}
	}
	if plain != (rtt.Rtt{}) {
		t.Error("a plain one was changed")
	}
}
