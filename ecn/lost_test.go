package ecn_test

import (
	"testing"

	"caravel/ecn"
)

// As many as are on their way can be lost, in every state; not one more, and not fewer than none.
func TestP18_2Bounds(t *testing.T) {
	for state, way := range map[int]int{ecn.Testing: 4, ecn.Unknown: 10, ecn.Capable: 11, ecn.Failed: 11} {
		for marked := range way + 1 {
			c := each(t)[state]
			for _, wrong := range []int{low, low + 1, -most, -way, -1, way + 1, way + 2, 2 * way, most, most + 1, huge - way, huge - 1, huge} {
				refusesLost(t, c, wrong)
			}
			onWay(t, c, way)
			loses(t, c, marked)
			onWay(t, c, way-marked)
			refusesLost(t, c, way-marked+1)
			refusesLost(t, c, huge)
			refusesLost(t, c, -1)
			loses(t, c, 0)
			onWay(t, c, way-marked)
		}
	}
	refusesLost(t, begin(t), 1)
	refusesLost(t, begin(t), -1)
}

// What was lost, and what is here, can't be lost any more.
func TestP18_2Together(t *testing.T) {
	for here := 1; here <= 8; here++ {
		c := after(t, 8)
		takes(t, c, here, counts{here, 0, 0}, false)
		for way := 8 - here; way > 0; way-- {
			refusesLost(t, c, way+1)
			onWay(t, c, way)
			loses(t, c, 1)
		}
		refusesLost(t, c, 1)
		loses(t, c, 0)
		is(t, c, ecn.Capable)
	}
}

// Fewer than ten that were sent may all be lost.
func TestP18_2FewerThanTen(t *testing.T) {
	for sent := range 10 {
		c := after(t, sent)
		loses(t, c, sent)
		loses(t, c, 0)
		is(t, c, ecn.Testing)
		one := after(t, sent)
		for range sent {
			loses(t, one, 1)
			is(t, one, ecn.Testing)
		}
		onWay(t, one, 0)
		sends(t, one, 1) // it goes on
		onWay(t, one, 1)
	}
}

// All ten are lost, at once, one by one, or in two parts.
func TestP18_2AllTen(t *testing.T) {
	c := after(t, 10)
	loses(t, c, 0)
	is(t, c, ecn.Unknown)
	for range 9 {
		loses(t, c, 1)
		is(t, c, ecn.Unknown)
	}
	loses(t, c, 0)
	is(t, c, ecn.Unknown)
	loses(t, c, 1)
	is(t, c, ecn.Failed)
	loses(t, c, 0)
	is(t, c, ecn.Failed)
	silent(t, c)
	for first := range 10 {
		c := after(t, 10)
		loses(t, c, first)
		is(t, c, ecn.Unknown)
		loses(t, c, 10-first)
		is(t, c, ecn.Failed)
		refusesLost(t, c, 1)
		silent(t, c)
	}
}

// Nine were lost while it tested: the tenth is what it hangs on.
func TestP18_2Tenth(t *testing.T) {
	for arrives := range 2 {
		c := after(t, 9)
		loses(t, c, 9)
		is(t, c, ecn.Testing)
		sends(t, c, 1)
		is(t, c, ecn.Unknown)
		loses(t, c, 0)
		is(t, c, ecn.Unknown)
		if arrives == 1 {
			takes(t, c, 1, counts{1, 0, 0}, false)
			is(t, c, ecn.Capable)
			loses(t, c, 0)
			is(t, c, ecn.Capable)
			continue
		}
		loses(t, c, 1)
		is(t, c, ecn.Failed)
	}
}

// All but one of ten: it is neither known nor failed, even if the peer told counts of what was not marked.
func TestP18_2AllButOne(t *testing.T) {
	c := after(t, 10)
	loses(t, c, 9)
	takes(t, c, 0, counts{1, 0, 0}, false)
	takes(t, c, 0, counts{1, 0, 9}, true)
	quiet(t, c, 0, counts{})
	is(t, c, ecn.Unknown)
	onWay(t, c, 1)
	loses(t, c, 1)
	is(t, c, ecn.Failed)
}

// A capable one does not fail by what is lost: ten and more, and all that are on their way.
func TestP18_2Capable(t *testing.T) {
	for _, sent := range []int{1, 2, 9, 10, 11, 12, 20, 1000} {
		for _, left := range []int{0, 1} {
			c := able(t, sent)
			loses(t, c, max(sent-1-left, 0))
			is(t, c, ecn.Capable)
			sends(t, c, 11)
			loses(t, c, 11)
			is(t, c, ecn.Capable)
			sends(t, c, 1)
		}
	}
	c := able(t, 1)
	for range 100 {
		sends(t, c, 1)
		loses(t, c, 1)
		is(t, c, ecn.Capable)
	}
}

// One that failed stays so, whatever is lost; it counts on.
func TestP18_2Failed(t *testing.T) {
	for _, sent := range []int{1, 9, 10, 11, 12} {
		c := broken(t, sent)
		for way := sent - 1; way > 0; way-- {
			onWay(t, c, way)
			loses(t, c, 1)
			is(t, c, ecn.Failed)
		}
		refusesLost(t, c, 1)
		silent(t, c)
	}
	for sent := 1; sent <= 10; sent++ { // nothing was here before
		c := after(t, sent)
		takes(t, c, 0, counts{0, 1, 0}, false)
		is(t, c, ecn.Failed)
		onWay(t, c, sent)
		loses(t, c, sent)
		is(t, c, ecn.Failed)
		silent(t, c)
	}
}
