package seen_test

import (
	"math"
	"slices"
	"testing"

	"caravel/api"
	"caravel/seen"
)

func TestP8_3Acks(t *testing.T) {
	s := begin(t, 25)
	for _, n := range []int{9, 1, 0, 4, 10, 3, 7} {
		takes(t, s, n, n%2 == 0, 5)
	}
	for _, most := range []int{math.MinInt, -2, -1, 0} {
		acks(t, s, most)
	}
	acks(t, s, 1, 9, 10)
	acks(t, s, 2, 9, 10, 7, 7)
	acks(t, s, 3, 9, 10, 7, 7, 3, 4)
	for _, most := range []int{4, 5, 6, api.MaxSpans, math.MaxInt} {
		acks(t, s, most, 9, 10, 7, 7, 3, 4, 0, 1)
	}
	takes(t, s, 8, false, 6) // two become one
	acks(t, s, 2, 7, 10, 3, 4)
	takes(t, s, top, false, 7)
	takes(t, s, top-2, false, 7)
	acks(t, s, 3, top, top, top-2, top-2, 7, 10)
	takes(t, s, top-1, false, 7)
	acks(t, s, 9, top-2, top, 7, 10, 3, 4, 0, 1)
	due(t, s, 5)
}

// Looks change nothing, and Sent nothing of what came: what was acknowledged is told again.
func TestP8_3AcksAgain(t *testing.T) {
	s := begin(t, 25)
	takes(t, s, 0, true, 1)
	takes(t, s, 2, true, 2)
	for range 3 {
		acks(t, s, 9, 2, 2, 0, 0)
		due(t, s, 2)
		greatest(t, s, 2)
	}
	for range 2 {
		sends(t, s, 4, 2)
		acks(t, s, 9, 2, 2, 0, 0)
		greatest(t, s, 2)
	}
}

func TestP8_3Sent(t *testing.T) {
	s := begin(t, 25)
	for _, now := range []int{math.MinInt, -1, 0, 1, late, late + 1, math.MaxInt} {
		sends(t, s, now, 0) // none came
	}
	takes(t, s, 0, true, 100)
	for _, c := range [][2]int{
		{math.MinInt, 0}, {-1, 0}, {0, 0}, {99, 0}, {100, 0}, {101, 1}, {150, 50},
		{late, late - 100}, {late + 1, late - 99}, {math.MaxInt, math.MaxInt - 100},
	} {
		sends(t, s, c[0], c[1])
		sends(t, s, c[0], c[1]) // twice: it came when it came
		due(t, s, none)
	}
}

// How long it is since the greatest number came: not the last one, eliciting or not, forgotten or not.
func TestP8_3SentOfTheGreatest(t *testing.T) {
	s := begin(t, 25)
	takes(t, s, 5, true, 100)
	takes(t, s, 3, true, 150)
	sends(t, s, 160, 60)
	sends(t, s, 149, 49)
	stale(t, s, 5, true, 170) // it came before
	sends(t, s, 180, 80)
	takes(t, s, 6, false, 200)
	sends(t, s, 210, 10)
	sends(t, s, 199, 0)
	forgets(t, s, 9)
	sends(t, s, 230, 30)
	stale(t, s, 9, true, 240)
	sends(t, s, 250, 50)
	takes(t, s, 10, true, 260)
	sends(t, s, 261, 1)
	s = begin(t, 25)
	takes(t, s, 0, true, 0)
	sends(t, s, 0, 0)
	sends(t, s, 7, 7)
	s = begin(t, 25)
	takes(t, s, top, true, late)
	sends(t, s, late-1, 0)
	sends(t, s, late, 0)
	sends(t, s, math.MaxInt, math.MaxInt-late)
}

// What was due is not due behind Sent, whenever that is.
func TestP8_3SentEndsWhatIsDue(t *testing.T) {
	for _, now := range []int{math.MinInt, 0, 99, 100, 130, math.MaxInt} {
		s := begin(t, 25)
		takes(t, s, 0, true, 100)
		due(t, s, 125)
		s.Sent(now)
		due(t, s, none)
		takes(t, s, 1, true, 110) // none waited any more
		due(t, s, 135)
		takes(t, s, 2, true, 120)
		due(t, s, 120)
		s.Sent(now)
		due(t, s, none)
		takes(t, s, 3, false, 121)
		due(t, s, none)
	}
}

// several tells one with the numbers 0-2, 5, 7-9.
func several(t *testing.T) *seen.Seen {
	s := begin(t, 25)
	for _, n := range []int{0, 1, 2, 5, 7, 8, 9} {
		takes(t, s, n, false, 10)
	}
	return s
}

func TestP8_3Forget(t *testing.T) {
	for _, c := range []struct {
		upto int
		left []int
	}{
		{-1, []int{7, 9, 5, 5, 0, 2}},
		{0, []int{7, 9, 5, 5, 1, 2}},
		{1, []int{7, 9, 5, 5, 2, 2}},
		{2, []int{7, 9, 5, 5}},
		{3, []int{7, 9, 5, 5}},
		{4, []int{7, 9, 5, 5}},
		{5, []int{7, 9}},
		{6, []int{7, 9}},
		{7, []int{8, 9}},
		{8, []int{9, 9}},
		{9, nil},
		{10, nil},
		{top - 1, nil},
		{top, nil},
	} {
		s := several(t)
		forgets(t, s, c.upto)
		for range 2 {
			acks(t, s, 9, c.left...)
			greatest(t, s, 9)
			for upto := -1; upto <= min(c.upto, 12); upto++ {
				forgets(t, s, upto) // what is forgotten stays so
			}
		}
		for n := range 12 {
			had := n <= 2 || n == 5 || 7 <= n && n <= 9
			if fresh, e := s.Take(n, false, 11); fresh != (!had && n > c.upto) || e != api.OK {
				t.Errorf("Forget(%d): Take(%d) = %v, %d", c.upto, n, fresh, int(e))
			}
		}
	}
}

func TestP8_3ForgetWrong(t *testing.T) {
	p := newPair(t, 25)
	p.take(0, true, 1)
	p.take(5, true, 2)
	p.forget(0)
	for _, upto := range []int{math.MinInt, math.MinInt + 1, -top, -3, -2, top + 1, top + 2, math.MaxInt - 1, math.MaxInt} {
		if e := p.forget(upto); e != api.ErrArg {
			t.Errorf("Forget(%d) = %d", upto, int(e))
		}
		acks(t, p.s, 9, 5, 5)
	}
	if fresh, _ := p.take(top, true, 3); !fresh {
		t.Error("a wrong Forget forgot")
	}
}

// Of all, of some, of none; what is forgotten is not fresh, whether it came or not, and is not acknowledged.
func TestP8_3Forgotten(t *testing.T) {
	s := begin(t, 25)
	forgets(t, s, -1)
	takes(t, s, 0, true, 1)
	forgets(t, s, 4)
	for n := range 5 {
		stale(t, s, n, true, 2)
	}
	acks(t, s, 9)
	greatest(t, s, 0)
	takes(t, s, 6, false, 3)
	takes(t, s, 5, false, 3)
	acks(t, s, 9, 5, 6)
	forgets(t, s, 2) // below an earlier one
	forgets(t, s, -1)
	stale(t, s, 3, true, 4)
	stale(t, s, 4, true, 4)
	acks(t, s, 9, 5, 6)
	forgets(t, s, top-1)
	stale(t, s, top-1, true, 5)
	takes(t, s, top, false, 6)
	acks(t, s, 9, top, top)
	forgets(t, s, top)
	stale(t, s, top, true, 7)
	stale(t, s, top-1, true, 7)
	stale(t, s, 0, true, 7)
	acks(t, s, 9)
	greatest(t, s, top)
	refuses(t, s, top, true, 6, api.ErrTime)
}

// Forget leaves what is due and what waits as it was.
func TestP8_3ForgetAndDue(t *testing.T) {
	s := begin(t, 25)
	takes(t, s, 0, true, 100)
	forgets(t, s, 0)
	due(t, s, 125)
	takes(t, s, 1, true, 110) // two wait, the forgotten one among them
	due(t, s, 110)
	forgets(t, s, top)
	due(t, s, 110)
	sends(t, s, 120, 10)
	due(t, s, none)
	stale(t, s, 5, true, 130)
	due(t, s, none)
}

func TestP8_3Greatest(t *testing.T) {
	s := begin(t, 25)
	greatest(t, s, -1)
	forgets(t, s, 3)
	greatest(t, s, -1) // forgotten, but none of them came
	stale(t, s, 2, true, 1)
	greatest(t, s, -1)
	for _, c := range [][2]int{{7, 7}, {5, 7}, {8, 8}, {4, 8}, {1000, 1000}, {top - 1, top - 1}, {top, top}} {
		takes(t, s, c[0], false, 2)
		greatest(t, s, c[1])
	}
	s.Sent(5)
	greatest(t, s, top)
	forgets(t, s, top)
	greatest(t, s, top)
	s = begin(t, 25)
	takes(t, s, 0, false, 1)
	greatest(t, s, 0)
	forgets(t, s, 0)
	greatest(t, s, 0)
	refuses(t, s, 9, false, 0, api.ErrTime)
	refuses(t, s, 9, false, -1, api.ErrArg)
	greatest(t, s, 0)
}

// What is told is new memory, its spare room too.
func TestP8_3AcksAreNew(t *testing.T) {
	s := begin(t, 25)
	for _, n := range []int{0, 2, 3, 6, 9} {
		takes(t, s, n, true, 1)
	}
	want := spans(9, 9, 6, 6, 2, 3, 0, 0)
	for _, most := range []int{1, 2, 3, 4, 5} {
		one, other := s.Acks(most), s.Acks(most)
		spoil(one)
		if !slices.Equal(other, want[:min(most, 4)]) {
			t.Fatalf("one answer of Acks(%d) shares memory with another", most)
		}
		spoil(other)
		acks(t, s, 9, 9, 9, 6, 6, 2, 3, 0, 0)
	}
	told := s.Acks(9)
	takes(t, s, 1, true, 2)
	forgets(t, s, 6)
	if !slices.Equal(told, want) {
		t.Errorf("what was told became %v", told)
	}
	stale(t, s, 2, true, 3)
	takes(t, s, 8, true, 3)
}

// spoil writes over a list and all its spare room.
func spoil(list []api.Span) {
	list = list[:cap(list)]
	for i := range list {
		list[i] = api.Span{First: 77, Last: 77}
	}
}

// Of nothing, and of one that no call made, all calls answer zero values or ErrNil, and stay so.
func TestP8_3None(t *testing.T) {
	for _, s := range []*seen.Seen{nil, {}, new(seen.Seen)} {
		for range 2 {
			for _, n := range []int{math.MinInt, -1, 0, 1, top, top + 1} {
				for _, now := range []int{-1, 0, 100, late, late + 1} {
					refuses(t, s, n, true, now, api.ErrNil)
					refuses(t, s, n, false, now, api.ErrNil)
				}
				if e := s.Forget(n); e != api.ErrNil {
					t.Errorf("Forget(%d) = %d", n, int(e))
				}
				sends(t, s, n, 0)
				acks(t, s, n)
			}
			acks(t, s, 9)
			due(t, s, none)
			greatest(t, s, 0)
		}
	}
}
