package ecn_test

import (
	"testing"

	"caravel/api"
	"caravel/ecn"
)

// The chapter's example.
func TestP18_5Example(t *testing.T) {
	c := begin(t)
	is(t, c, ecn.Testing)
	sends(t, c, 10)
	is(t, c, ecn.Unknown)
	takes(t, c, 3, counts{3, 0, 0}, false)
	is(t, c, ecn.Capable)
	takes(t, c, 2, counts{4, 0, 1}, true)
	is(t, c, ecn.Capable)
	quiet(t, c, 1, counts{5, 0, 1})
	is(t, c, ecn.Failed)
}

// The states have the numbers that package ecn was given with.
func TestP18_4Numbers(t *testing.T) {
	if got := [4]int{ecn.Testing, ecn.Unknown, ecn.Failed, ecn.Capable}; got != [4]int{1, 2, 3, 4} {
		t.Errorf("the states are numbered %v", got)
	}
}

func TestP18_4State(t *testing.T) {
	is(t, begin(t), ecn.Testing)
	for state, c := range each(t) {
		before := *c
		is(t, c, state)
		is(t, c, state)
		if *c != before {
			t.Errorf("State changed something in the state %d", state)
		}
	}
}

// What becomes of one validation is nothing to another.
func TestP18_4Apart(t *testing.T) {
	a, b := begin(t), begin(t)
	sends(t, a, 10)
	is(t, b, ecn.Testing)
	onWay(t, b, 0)
	sends(t, b, 1)
	takes(t, b, 1, counts{1, 0, 0}, false)
	is(t, a, ecn.Unknown)
	onWay(t, a, 10)
	loses(t, a, 10)
	is(t, a, ecn.Failed)
	is(t, b, ecn.Capable)
	is(t, begin(t), ecn.Testing)
}

// A validation that is nil, or that no call made: nothing is done, whatever comes.
func TestP18_4None(t *testing.T) {
	var plain ecn.Ecn
	for _, c := range []*ecn.Ecn{nil, &plain, {}, new(ecn.Ecn)} {
		for range 12 {
			if c.State() != 0 || c.Sent() {
				t.Fatal("there is a state, or something is marked")
			}
			for _, n := range []int{low, -1, 0, 1, 9, 10, most, most + 1, huge} {
				if e := c.Lost(n); e != api.ErrNil {
					t.Errorf("Lost(%d) = %d", n, int(e))
				}
				for _, peer := range []counts{{}, {n, 0, 0}, {0, n, 0}, {0, 0, n}, {n, n, n}} {
					noneAcked(t, c, n, peer)
					noneAcked(t, c, 0, peer)
				}
			}
		}
	}
	if plain != (ecn.Ecn{}) {
		t.Error("a plain one was changed")
	}
}

func noneAcked(t *testing.T, c *ecn.Ecn, marked int, peer counts) {
	t.Helper()
	for _, says := range []bool{true, false} {
		if congested, e := c.Acked(marked, peer, says); congested || e != api.ErrNil {
			t.Errorf("Acked(%d, %v, %v) = %v, %d", marked, peer, says, congested, int(e))
		}
	}
}

// A validation of which nothing was sent is one that a call made, all the same.
func TestP18_4Empty(t *testing.T) {
	c := begin(t)
	loses(t, c, 0)
	takes(t, c, 0, counts{}, false)
	quiet(t, c, 0, counts{})
	is(t, c, ecn.Testing)
	refusesLost(t, c, 1)
	refusesAcked(t, c, 1, counts{})
	sends(t, c, 1)
	onWay(t, c, 1)
}
