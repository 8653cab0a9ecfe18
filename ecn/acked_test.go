package ecn_test

import (
	"testing"

	"caravel/api"
	"caravel/ecn"
)

// base is a validation whose last counts are 3, 0 and 2.
type base struct {
	state, sent, way int
}

// bases tells one in each state that has not failed, with eight packets on their way at least.
func bases() []base {
	return []base{{ecn.Testing, 8, 8}, {ecn.Unknown, 10, 10}, {ecn.Capable, 12, 10}, {ecn.Capable, 20, 10}}
}

func (b base) make(t *testing.T) *ecn.Ecn {
	t.Helper()
	c := after(t, min(b.sent, 10))
	if b.state == ecn.Capable {
		takes(t, c, 2, counts{3, 0, 2}, true)
		sends(t, c, b.sent-10)
		loses(t, c, b.sent-b.way-2)
	} else {
		takes(t, c, 0, counts{3, 0, 2}, true)
	}
	is(t, c, b.state)
	onWay(t, c, b.way)
	lastOnes(t, c, counts{3, 0, 2})
	return c
}

// lastOnes asks which counts were taken last, with forks: those are right still, and each that is one below them is not.
func lastOnes(t *testing.T, c *ecn.Ecn, want counts) {
	t.Helper()
	for i := -1; i < 3; i++ {
		peer, fork := want, *c
		if i >= 0 {
			peer[i]--
		}
		if i >= 0 && peer[i] < 0 {
			continue
		}
		takes(t, &fork, 0, peer, false)
		if (fork.State() == ecn.Failed) != (i >= 0) {
			t.Fatalf("behind %v, as the last ones, %v come to the state %d", want, peer, fork.State())
		}
	}
}

// ackCase is what arrives behind a base.
type ackCase struct {
	marked    int
	peer      counts
	says      bool
	fails     bool
	congested bool
}

func (a ackCase) ask(t *testing.T, b base) {
	t.Helper()
	c := b.make(t)
	congested, e := c.Acked(a.marked, a.peer, a.says)
	if congested != a.congested || e != api.OK {
		t.Fatalf("%+v: %+v answers %v, %d", b, a, congested, int(e))
	}
	want := b.state
	switch {
	case a.fails:
		want = ecn.Failed
	case a.says && a.marked > 0:
		want = ecn.Capable
	}
	if c.State() != want {
		t.Fatalf("%+v: behind %+v the state is %d, not %d", b, a, c.State(), want)
	}
	onWay(t, c, b.way-a.marked)
	switch {
	case a.fails:
		mute(t, c)
	case a.says:
		lastOnes(t, c, a.peer)
	default:
		lastOnes(t, c, counts{3, 0, 2})
	}
}

// mute asks that nothing is marked any more, nor tells congestion.
func mute(t *testing.T, c *ecn.Ecn) {
	t.Helper()
	is(t, c, ecn.Failed)
	silent(t, c)
	for _, peer := range []counts{{}, {3, 0, 2}, {3, 0, 3}, {4, 0, 4}, {0, 0, 8}, {9, 9, 9}, {0, 0, most}, {most, most, most}} {
		takes(t, c, 0, peer, false)
		quiet(t, c, 0, peer)
		is(t, c, ecn.Failed)
	}
	silent(t, c)
}

// The peer does not say its counts: they are not looked at, and what is marked fails.
func TestP18_3Unsaid(t *testing.T) {
	for _, b := range bases() {
		for _, peer := range []counts{{}, {3, 0, 2}, {4, 0, 2}, {3, 0, 3}, {8, 0, 0}, {2, 0, 1}, {0, 1, 0}, {most, 0, 0}, {0, most, 0}, {0, 0, most}, {most, most, most}} {
			ackCase{0, peer, false, false, false}.ask(t, b)
			for marked := 1; marked <= b.way; marked++ {
				ackCase{marked, peer, false, true, false}.ask(t, b)
			}
		}
	}
}

// Nothing that was marked has arrived, and the peer says its counts.
func TestP18_3SaidNone(t *testing.T) {
	for _, b := range bases() {
		for _, a := range []ackCase{
			{0, counts{3, 0, 2}, true, false, false},
			{0, counts{4, 0, 2}, true, false, false},
			{0, counts{6, 0, 2}, true, false, false},
			{0, counts{3, 0, 3}, true, false, true},
			{0, counts{3, 0, 5}, true, false, true},
			{0, counts{4, 0, 3}, true, false, true},
			{0, counts{5, 0, 3}, true, false, true},
			{0, counts{3, 1, 2}, true, true, false},
			{0, counts{3, 2, 2}, true, true, false},
			{0, counts{4, 1, 3}, true, true, false},
			{0, counts{3, 1, 3}, true, true, false},
			{0, counts{3, most, 2}, true, true, false},
			{0, counts{2, 0, 2}, true, true, false},
			{0, counts{2, 0, 3}, true, true, false},
			{0, counts{2, 0, 5}, true, true, false},
			{0, counts{0, 0, 5}, true, true, false},
			{0, counts{3, 0, 1}, true, true, false},
			{0, counts{4, 0, 1}, true, true, false},
			{0, counts{6, 0, 1}, true, true, false},
			{0, counts{5, 0, 0}, true, true, false},
			{0, counts{2, 0, 1}, true, true, false},
			{0, counts{}, true, true, false},
		} {
			a.ask(t, b)
		}
	}
}

// What was marked has arrived, and the peer says its counts.
func TestP18_3SaidSome(t *testing.T) {
	for _, b := range bases() {
		for _, a := range []ackCase{
			{1, counts{4, 0, 2}, true, false, false},
			{1, counts{5, 0, 2}, true, false, false},
			{1, counts{6, 0, 2}, true, false, false},
			{1, counts{3, 0, 3}, true, false, true},
			{1, counts{4, 0, 3}, true, false, true},
			{1, counts{3, 0, 5}, true, false, true},
			{1, counts{3, 0, 2}, true, true, false},
			{1, counts{2, 0, 4}, true, true, false},
			{1, counts{5, 0, 1}, true, true, false},
			{1, counts{4, 1, 2}, true, true, false},
			{1, counts{3, 1, 3}, true, true, false},
			{1, counts{3, 1, 2}, true, true, false},
			{1, counts{0, 0, 1}, true, true, false},
			{1, counts{}, true, true, false},
			{2, counts{4, 0, 2}, true, true, false},
			{2, counts{3, 0, 3}, true, true, false},
			{2, counts{4, 0, 3}, true, false, true},
			{3, counts{6, 0, 2}, true, false, false},
			{3, counts{5, 0, 3}, true, false, true},
			{3, counts{4, 0, 4}, true, false, true},
			{3, counts{3, 0, 5}, true, false, true},
			{3, counts{5, 0, 2}, true, true, false},
			{3, counts{4, 0, 3}, true, true, false},
			{3, counts{3, 0, 4}, true, true, false},
			{3, counts{5, 1, 2}, true, true, false},
			{3, counts{2, 0, 6}, true, true, false},
			{3, counts{7, 0, 1}, true, true, false},
			{4, counts{6, 0, 2}, true, true, false},
			{4, counts{3, 0, 5}, true, true, false},
			{5, counts{6, 0, 2}, true, true, false},
			{8, counts{6, 0, 2}, true, true, false},
		} {
			a.ask(t, b)
		}
	}
}

// Together they are as many as were sent, and more.
func TestP18_3AboveSent(t *testing.T) {
	for _, b := range bases() {
		for _, marked := range []int{0, 1, 2, 3} {
			for ce := 2; ce <= b.sent-3; ce++ {
				ackCase{marked, counts{b.sent - ce, 0, ce}, true, false, ce > 2}.ask(t, b)
				ackCase{marked, counts{b.sent - ce + 1, 0, ce}, true, true, false}.ask(t, b)
				ackCase{marked, counts{b.sent - ce, 0, ce + 1}, true, true, false}.ask(t, b)
			}
			for _, peer := range []counts{{b.sent + 1, 0, 2}, {3, 0, b.sent + 1}, {most - 1, 0, 2}, {most, 0, 2}, {3, 0, most - 1}, {3, 0, most}, {most, 0, most}, {most, most, most}} {
				ackCase{marked, peer, true, true, false}.ask(t, b)
			}
		}
	}
	for sent := 1; sent <= 12; sent++ { // what is lost was sent, too
		c := able(t, sent)
		loses(t, c, sent-1)
		takes(t, c, 0, counts{1, 0, sent - 1}, sent > 1)
		is(t, c, ecn.Capable)
		takes(t, c, 0, counts{2, 0, sent - 1}, false)
		is(t, c, ecn.Failed)
	}
}

// Nothing was sent: only counts of nothing are right.
func TestP18_3NothingSent(t *testing.T) {
	for _, peer := range []counts{{1, 0, 0}, {0, 1, 0}, {0, 0, 1}, {most, 0, 0}, {0, 0, most}, {most, most, most}} {
		c := begin(t)
		quiet(t, c, 0, peer)
		takes(t, c, 0, counts{}, false)
		is(t, c, ecn.Testing)
		takes(t, c, 0, peer, false)
		is(t, c, ecn.Failed)
		onWay(t, c, 0)
	}
}

// It is capable by what was marked alone, and stays so.
func TestP18_3Capable(t *testing.T) {
	for sent := 1; sent <= 10; sent++ {
		c := after(t, sent)
		state := c.State()
		takes(t, c, 0, counts{}, false)
		takes(t, c, 0, counts{0, 0, 1}, true)
		quiet(t, c, 0, counts{})
		is(t, c, state)
		takes(t, c, 0, counts{0, 0, 1}, false)
		is(t, c, state)
		if sent == 1 {
			takes(t, c, 1, counts{0, 0, 1}, false) // it was counted before: now it is too few
			is(t, c, ecn.Failed)
			continue
		}
		takes(t, c, 1, counts{1, 0, 1}, false)
		is(t, c, ecn.Capable)
		takes(t, c, 0, counts{1, 0, 1}, false)
		quiet(t, c, 0, counts{})
		is(t, c, ecn.Capable)
		sends(t, c, 3)
		takes(t, c, 2, counts{2, 0, 2}, true)
		is(t, c, ecn.Capable)
	}
}

// What one acknowledgement told is what the next one is held against.
func TestP18_3Last(t *testing.T) {
	c := after(t, 10)
	takes(t, c, 3, counts{3, 0, 0}, false)
	takes(t, c, 2, counts{3, 0, 2}, true)
	takes(t, c, 0, counts{3, 0, 2}, false)
	takes(t, c, 2, counts{5, 0, 2}, false)
	lastOnes(t, c, counts{5, 0, 2})
	takes(t, c, 1, counts{6, 0, 3}, true) // one more than is told to have arrived
	lastOnes(t, c, counts{6, 0, 3})
	takes(t, c, 1, counts{6, 0, 4}, true)
	onWay(t, c, 1)
	quiet(t, c, 0, counts{9, 9, 9})
	lastOnes(t, c, counts{6, 0, 4})
	takes(t, c, 1, counts{6, 0, 4}, false) // that one was counted, but does not count twice
	is(t, c, ecn.Failed)
}

// As many as are on their way can arrive, in every state; not one more, and not fewer than none, whatever the peer says.
func TestP18_3Marked(t *testing.T) {
	for state, way := range map[int]int{ecn.Testing: 4, ecn.Unknown: 10, ecn.Capable: 11, ecn.Failed: 11} {
		for marked := range way + 1 {
			c := each(t)[state]
			for _, wrong := range []int{low, low + 1, -most, -way, -1, way + 1, way + 2, 2 * way, most, most + 1, huge - way, huge - 1, huge} {
				refusesAcked(t, c, wrong, counts{})
				refusesAcked(t, c, wrong, counts{1, 0, 0})
				refusesAcked(t, c, wrong, counts{most, most, most})
				refusesAcked(t, c, wrong, counts{-1, 0, 0})
			}
			is(t, c, state)
			onWay(t, c, way)
			before := 1 // of capable ones the peer counted one
			if state == ecn.Testing || state == ecn.Unknown {
				before = 0
			}
			takes(t, c, marked, counts{before + marked, 0, 0}, false)
			onWay(t, c, way-marked)
			refusesAcked(t, c, way-marked+1, counts{12, 0, 0})
			refusesAcked(t, c, huge, counts{})
			refusesAcked(t, c, -1, counts{})
			refusesLost(t, c, way-marked+1)
		}
	}
	refusesAcked(t, begin(t), 1, counts{1, 0, 0})
	refusesAcked(t, begin(t), -1, counts{})
}

// Each count is from 0 to MaxVar, said or not, in every state.
func TestP18_3Counts(t *testing.T) {
	for state, c := range each(t) {
		for i := range 3 {
			for _, wrong := range []int{low, low + 1, -most, -2, -1, most + 1, most + 2, huge - 1, huge} {
				for _, others := range []int{0, 1, most, wrong} {
					peer := counts{others, others, others}
					peer[i] = wrong
					refusesAcked(t, c, 0, peer)
					refusesAcked(t, c, 1, peer)
					refusesAcked(t, c, -1, peer)
				}
			}
			for _, right := range []int{0, 1, most - 1, most} {
				for _, says := range []bool{true, false} {
					peer, fork := counts{}, *c
					peer[i] = right
					if _, e := fork.Acked(0, peer, says); e != api.OK {
						t.Errorf("in the state %d Acked(0, %v, %v) = %d", state, peer, says, int(e))
					}
				}
			}
		}
		is(t, c, state)
	}
}

// Behind Failed what arrives is still counted as here, whatever the peer says.
func TestP18_3Failed(t *testing.T) {
	for sent := 2; sent <= 12; sent++ {
		c := broken(t, sent)
		peers := []counts{{}, {1, 0, 0}, {2, 0, 0}, {2, 0, 1}, {0, 9, 0}, {0, 0, most}, {most, most, most}}
		for way := sent - 1; way > 0; way-- {
			onWay(t, c, way)
			refusesAcked(t, c, way+1, counts{})
			refusesLost(t, c, way+1)
			if peer := peers[way%len(peers)]; way%2 == 0 {
				takes(t, c, 1, peer, false)
			} else {
				quiet(t, c, 1, peer)
			}
			is(t, c, ecn.Failed)
		}
		onWay(t, c, 0)
		refusesAcked(t, c, 1, counts{})
		refusesLost(t, c, 1)
		mute(t, c)
		onWay(t, c, 0)
	}
	c := broken(t, 12)
	takes(t, c, 11, counts{12, 0, 0}, false)
	onWay(t, c, 0)
	mute(t, c)
}

// By what it failed does not matter: right counts do not mend it.
func TestP18_5Failed(t *testing.T) {
	for _, fail := range []func(*ecn.Ecn){
		func(c *ecn.Ecn) { c.Lost(10) },
		func(c *ecn.Ecn) { c.Acked(1, counts{1, 0, 0}, false) },
		func(c *ecn.Ecn) { c.Acked(0, counts{0, 1, 0}, true) },
		func(c *ecn.Ecn) { c.Acked(1, counts{1, 1, 0}, true) },
		func(c *ecn.Ecn) { c.Acked(1, counts{}, true) },
		func(c *ecn.Ecn) { c.Acked(2, counts{1, 0, 0}, true) },
		func(c *ecn.Ecn) { c.Acked(0, counts{11, 0, 0}, true) },
		func(c *ecn.Ecn) { c.Acked(1, counts{0, 0, 11}, true) },
		func(c *ecn.Ecn) { c.Acked(0, counts{1, 0, 1}, true); c.Acked(0, counts{0, 0, 1}, true) },
		func(c *ecn.Ecn) { c.Acked(0, counts{1, 0, 1}, true); c.Acked(0, counts{1, 0, 0}, true) },
	} {
		c := after(t, 10)
		fail(c)
		mute(t, c)
	}
}
