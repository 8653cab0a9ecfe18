package ecn_test

import (
	"testing"

	"caravel/api"
	"caravel/ecn"
)

// Ten are marked; behind the tenth it is not known whether marks come through, and no more are.
func TestP18_1Testing(t *testing.T) {
	c := begin(t)
	for n := 1; n <= 10; n++ {
		is(t, c, ecn.Testing)
		onWay(t, c, n-1)
		sends(t, c, 1)
	}
	is(t, c, ecn.Unknown)
	onWay(t, c, 10)
	silent(t, c)
	is(t, c, ecn.Unknown)
	onWay(t, c, 10)
}

// It is the tenth that was sent, whatever became of those ahead of it.
func TestP18_1TenthBehindOthers(t *testing.T) {
	for lost := range 10 {
		c := after(t, 9)
		loses(t, c, lost)
		takes(t, c, 0, counts{1, 0, 1}, true)
		quiet(t, c, 0, counts{})
		is(t, c, ecn.Testing)
		sends(t, c, 1)
		is(t, c, ecn.Unknown)
		onWay(t, c, 10-lost)
		silent(t, c)
	}
}

// As soon as it is capable all are marked, beyond ten, too.
func TestP18_1Capable(t *testing.T) {
	for first := 1; first <= 10; first++ {
		c := after(t, first)
		takes(t, c, 1, counts{1, 0, 0}, false)
		for n := first; n < 1200; n++ {
			is(t, c, ecn.Capable)
			onWay(t, c, n-1)
			sends(t, c, 1)
		}
		is(t, c, ecn.Capable)
		onWay(t, c, 1199)
	}
}

func TestP18_1Many(t *testing.T) {
	c := able(t, 1<<20)
	onWay(t, c, 1<<20-1)
	loses(t, c, 1<<19)
	takes(t, c, 1<<19-1, counts{1 << 19, 0, 1 << 19}, true)
	onWay(t, c, 0)
	sends(t, c, 1)
	onWay(t, c, 1)
	is(t, c, ecn.Capable)
}

// A validation that failed in any way marks nothing, and nothing is sent by that.
func TestP18_1Failed(t *testing.T) {
	for sent := 1; sent <= 12; sent++ {
		c := broken(t, sent)
		onWay(t, c, sent-1)
		silent(t, c)
		onWay(t, c, sent-1)
		is(t, c, ecn.Failed)
	}
	c := after(t, 10)
	loses(t, c, 10)
	silent(t, c)
	onWay(t, c, 0)
	is(t, c, ecn.Failed)
	c = after(t, 3)
	quiet(t, c, 2, counts{})
	silent(t, c)
	onWay(t, c, 1)
	is(t, c, ecn.Failed)
}

// Calls that answer errors do not count as sent.
func TestP18_1Errors(t *testing.T) {
	c := begin(t)
	for range 10 {
		if e := c.Lost(-1); e != api.ErrArg {
			t.Fatal(int(e))
		}
		refusesAcked(t, c, 0, counts{-1, 0, 0})
		is(t, c, ecn.Testing)
		sends(t, c, 1)
	}
	is(t, c, ecn.Unknown)
}
