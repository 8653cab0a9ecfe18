package seen_test

import (
	"math"
	"testing"

	"caravel/api"
	"caravel/seen"
)

// The chapter's example.
func TestP8_3Example(t *testing.T) {
	s := begin(t, 25)
	takes(t, s, 0, true, 100)
	due(t, s, 125)
	takes(t, s, 1, true, 110)
	due(t, s, 110)
	acks(t, s, 9, 0, 1)
	sends(t, s, 130, 20)
	due(t, s, none)
	takes(t, s, 5, true, 140)
	due(t, s, 140)
	acks(t, s, 9, 5, 5, 0, 1)
	forgets(t, s, 1)
	acks(t, s, 9, 5, 5)
	stale(t, s, 1, true, 150)
}

func TestP8_1Delays(t *testing.T) {
	for _, delay := range []int{0, 1, 25, 1 << 32, late - 1, late} {
		for _, now := range []int{0, 1, late - 1, late} {
			s := begin(t, delay)
			takes(t, s, 0, true, now)
			due(t, s, now+delay)
		}
	}
	for _, delay := range []int{math.MinInt, math.MinInt + 1, -late, -2, -1, late + 1, late + 2, 1 << 62, math.MaxInt} {
		if s, e := seen.New(delay); s != nil || e != api.ErrArg {
			t.Errorf("New(%d) = %v, %d", delay, s, int(e))
		}
	}
}

func TestP8_1Begins(t *testing.T) {
	for _, delay := range []int{0, 25, late} {
		s := begin(t, delay)
		due(t, s, none)
		acks(t, s, math.MaxInt)
		greatest(t, s, -1)
		sends(t, s, 99, 0)
		takes(t, s, 0, false, 0) // the time of Sent is none that Take asks for
	}
}

// What one takes is nothing to another.
func TestP8_1Apart(t *testing.T) {
	a, b := begin(t, 10), begin(t, 20)
	takes(t, a, 0, true, 500)
	forgets(t, a, 3)
	takes(t, b, 0, true, 100)
	takes(t, b, 3, false, 101)
	due(t, a, 510)
	due(t, b, 120)
	acks(t, a, 9)
	acks(t, b, 9, 3, 3, 0, 0)
	sends(t, a, 600, 100)
	due(t, b, 120)
	greatest(t, a, 0)
	greatest(t, b, 3)
}

// came is a packet that came, whether it is fresh, and what is due then.
type came struct {
	number    int
	eliciting bool
	now       int
	fresh     bool
	due       int
}

// What is due, with a delay of 25.
func TestP8_2Due(t *testing.T) {
	for _, c := range []struct {
		name string
		list []came
	}{
		{"the first is 0", []came{{0, true, 100, true, 125}}},
		{"the first is 1", []came{{1, true, 100, true, 100}}},
		{"the first is the greatest of all", []came{{top, true, 100, true, 100}}},
		{"the first is 0, at no time", []came{{0, true, 0, true, 25}}},
		{"the first is 0, at the end of time", []came{{0, true, late, true, late + 25}}},
		{"the first does not elicit", []came{{0, false, 100, true, none}}},
		{"another first does not elicit", []came{{7, false, 100, true, none}}},
		{"two wait, earlier than it was due", []came{{0, true, 100, true, 125}, {1, true, 124, true, 124}}},
		{"two wait, as it was due", []came{{0, true, 100, true, 125}, {1, true, 125, true, 125}}},
		{"two wait, later than it was due", []came{{0, true, 100, true, 125}, {1, true, 126, true, 125}}},
		{"two wait, at one time", []came{{0, true, 100, true, 125}, {1, true, 100, true, 100}}},
		{"three wait", []came{{0, true, 100, true, 125}, {1, true, 110, true, 110}, {2, true, 120, true, 110}}},
		{"three wait, all late", []came{{0, true, 100, true, 125}, {1, true, 150, true, 125}, {2, true, 160, true, 125}}},
		{"a gap, then the next", []came{{5, true, 100, true, 100}, {6, true, 110, true, 100}}},
		{"the next, then a gap", []came{{0, true, 100, true, 125}, {2, true, 110, true, 110}}},
		{"the next, then a gap that comes late", []came{{0, true, 100, true, 125}, {2, true, 130, true, 125}}},
		{"an earlier one waits alone", []came{{4, false, 100, true, none}, {3, true, 110, true, 110}}},
		{"one that lacked in the middle waits alone", []came{{0, false, 1, true, none}, {2, false, 2, true, none}, {1, true, 3, true, 3}}},
		{"the next behind one that does not elicit", []came{{4, false, 100, true, none}, {5, true, 110, true, 135}}},
		{"a gap of one behind one that does not elicit", []came{{4, false, 100, true, none}, {6, true, 110, true, 110}}},
		{"the next of the greatest, not of the last", []came{{4, false, 100, true, none}, {1, false, 101, true, none}, {5, true, 110, true, 135}}},
		{"the next of the last, not of the greatest", []came{{4, false, 100, true, none}, {1, false, 101, true, none}, {2, true, 110, true, 110}}},
		{"what does not elicit does not wait", []came{{0, true, 100, true, 125}, {1, false, 105, true, 125}, {9, false, 106, true, 125}, {10, true, 110, true, 110}}},
		{"what came before does not wait", []came{{0, true, 100, true, 125}, {0, true, 110, false, 125}, {1, true, 115, true, 115}}},
		{"what came before does not elicit any more", []came{{0, false, 100, true, none}, {0, true, 110, false, none}, {1, true, 115, true, 140}}},
		{"twice behind a gap", []came{{5, false, 100, true, none}, {5, true, 101, false, none}}},
		{"beside the greatest of all", []came{{top - 1, false, 100, true, none}, {top, true, 110, true, 135}}},
		{"behind the greatest of all", []came{{top, false, 100, true, none}, {0, true, 110, true, 110}}},
	} {
		s := begin(t, 25)
		for i, p := range c.list {
			fresh, e := s.Take(p.number, p.eliciting, p.now)
			at, ok := s.Due()
			if fresh != p.fresh || e != api.OK || ok != (p.due != none) || ok && at != p.due {
				t.Errorf("%s, %d: Take(%d, %v, %d) = %v, %d; Due() = %d, %v", c.name, i, p.number, p.eliciting, p.now, fresh, int(e), at, ok)
			}
		}
	}
}

// Without a delay all is due at once, with the longest one too, unless one waits alone.
func TestP8_2DelaysAtTheEdges(t *testing.T) {
	s := begin(t, 0)
	takes(t, s, 0, true, 7)
	due(t, s, 7)
	takes(t, s, 1, true, 8)
	due(t, s, 7)
	sends(t, s, 8, 0)
	takes(t, s, 3, true, 9)
	due(t, s, 9)
	s = begin(t, late)
	takes(t, s, 0, true, late)
	due(t, s, 2*late)
	takes(t, s, 1, true, late)
	due(t, s, late)
}

// Behind Sent what waits and what is due begins again, what came does not.
func TestP8_2BehindSent(t *testing.T) {
	s := begin(t, 25)
	takes(t, s, 0, true, 100)
	sends(t, s, 105, 5)
	takes(t, s, 1, true, 110)
	due(t, s, 135)
	takes(t, s, 2, true, 120)
	due(t, s, 120)
	sends(t, s, 121, 1)
	takes(t, s, 3, true, 122)
	due(t, s, 147)
	sends(t, s, 123, 1)
	stale(t, s, 3, true, 124)
	due(t, s, none)
	takes(t, s, 5, true, 125)
	due(t, s, 125)
	sends(t, s, 126, 1)
	takes(t, s, 4, true, 127) // an earlier one
	due(t, s, 127)
}

// Which number would be the next hangs on all that came, forgotten or not, and not on what was forgotten.
func TestP8_2NextBehindForgotten(t *testing.T) {
	s := begin(t, 25)
	takes(t, s, 0, false, 1)
	forgets(t, s, 0)
	takes(t, s, 1, true, 2)
	due(t, s, 27)
	sends(t, s, 2, 0)
	forgets(t, s, 6)
	takes(t, s, 7, true, 3)
	due(t, s, 3)
	s = begin(t, 25)
	forgets(t, s, 4)
	takes(t, s, 5, true, 2)
	due(t, s, 2)
}

// numbersAtTheEdges tells those that may be, and those that may not.
func numbersAtTheEdges() (good, wrong []int) {
	return []int{0, 1, top - 1, top}, []int{math.MinInt, math.MinInt + 1, -top, -2, -1, top + 1, top + 2, math.MaxInt - 1, math.MaxInt}
}

func timesAtTheEdges() (good, wrong []int) {
	return []int{0, 1, late - 1, late}, []int{math.MinInt, -late, -2, -1, late + 1, late + 2, 1 << 62, math.MaxInt}
}

func TestP8_2NumbersAndTimes(t *testing.T) {
	numbers, wrongNumbers := numbersAtTheEdges()
	times, wrongTimes := timesAtTheEdges()
	for _, eliciting := range []bool{false, true} {
		for _, now := range times {
			for _, n := range numbers {
				p := newPair(t, 25)
				p.take(n, eliciting, now)
				p.take(n, eliciting, now)
				if fresh, e := p.take(n^1, eliciting, now); !fresh || e != api.OK {
					t.Errorf("%d behind %d: %v, %d", n^1, n, fresh, int(e))
				}
			}
			for _, n := range wrongNumbers {
				refuses(t, begin(t, 25), n, eliciting, now, api.ErrArg)
			}
		}
		for _, now := range wrongTimes {
			for _, n := range append(wrongNumbers, numbers...) {
				refuses(t, begin(t, 25), n, eliciting, now, api.ErrArg)
			}
		}
	}
}

// With an error nothing has changed: the time neither.
func TestP8_2WrongChangesNothing(t *testing.T) {
	numbers, wrongNumbers := numbersAtTheEdges()
	times, wrongTimes := timesAtTheEdges()
	p := newPair(t, 25)
	p.take(3, true, 100)
	p.forget(1)
	for _, eliciting := range []bool{false, true} {
		for _, n := range wrongNumbers {
			for _, now := range append(times, wrongTimes...) {
				p.take(n, eliciting, now)
			}
		}
		for _, n := range append(numbers, 3, 4) {
			for _, now := range append(wrongTimes, 0, 1, 98, 99) {
				p.take(n, eliciting, now)
			}
		}
	}
	if fresh, e := p.take(4, true, 100); !fresh || e != api.OK {
		t.Errorf("Take = %v, %d behind wrong ones", fresh, int(e))
	}
	acks(t, p.s, 9, 3, 4)
}

func TestP8_2ErrorsInOrder(t *testing.T) {
	s := begin(t, 25)
	takes(t, s, 3, true, 100)
	forgets(t, s, 1)
	for _, c := range []struct {
		number, now int
		want        api.Errno
	}{
		{-1, 100, api.ErrArg},
		{-1, 99, api.ErrArg},
		{-1, -1, api.ErrArg},
		{top + 1, 99, api.ErrArg},
		{top + 1, late + 1, api.ErrArg},
		{4, -1, api.ErrArg},
		{4, late + 1, api.ErrArg},
		{4, 99, api.ErrTime},
		{4, 0, api.ErrTime},
		{3, 99, api.ErrTime}, // it came before
		{1, 99, api.ErrTime}, // it is forgotten
		{3, -1, api.ErrArg},
		{1, late + 1, api.ErrArg},
	} {
		refuses(t, s, c.number, true, c.now, c.want)
		due(t, s, 100)
	}
	for _, none := range []*seen.Seen{nil, {}} {
		refuses(t, none, -1, true, -1, api.ErrNil)
		refuses(t, none, -1, true, 0, api.ErrNil)
		refuses(t, none, 0, true, late+1, api.ErrNil)
		refuses(t, none, 0, false, 0, api.ErrNil)
	}
}

// The time goes on with each packet that answers no error, fresh or not, and by nothing else.
func TestP8_2Times(t *testing.T) {
	s := begin(t, 25)
	takes(t, s, 0, false, 0)
	takes(t, s, 5, false, 10)
	refuses(t, s, 6, false, 9, api.ErrTime)
	takes(t, s, 6, false, 10)
	takes(t, s, 7, false, 11)
	refuses(t, s, 8, false, 10, api.ErrTime)
	stale(t, s, 7, true, 20)
	refuses(t, s, 8, false, 19, api.ErrTime)
	refuses(t, s, 7, false, 19, api.ErrTime)
	takes(t, s, 8, false, 20)
	forgets(t, s, 3)
	stale(t, s, 3, true, 30)
	refuses(t, s, 9, false, 29, api.ErrTime)
	refuses(t, s, -1, false, 40, api.ErrArg)
	refuses(t, s, 9, false, late+1, api.ErrArg)
	sends(t, s, 50, 30)
	takes(t, s, 9, false, 30)
	takes(t, s, 10, false, late)
	refuses(t, s, 11, false, late-1, api.ErrTime)
	refuses(t, s, 11, false, 0, api.ErrTime)
	stale(t, s, 10, false, late)
	takes(t, s, 11, true, late)
	due(t, s, late+25)
}

// Packets in order, out of order and twice, some of them eliciting.
func TestP8_2Ordinary(t *testing.T) {
	for _, list := range [][]int{
		{0, 1, 2, 3, 4, 5},
		{5, 4, 3, 2, 1, 0},
		{0, 2, 1, 5, 3, 4},
		{0, 0, 1, 1, 0, 2, 2, 1},
		{3, 3, 1, 3, 2, 1},
		{100, 7, 101, 8, 99, 6},
	} {
		for eliciting := range 1 << len(list) {
			for _, step := range []int{0, 3, 25, 26} {
				p := newPair(t, 25)
				for i, n := range list {
					p.take(n, eliciting>>i&1 == 1, 100+i*step)
				}
				p.sent(100 + len(list)*step)
			}
		}
	}
}
