package flow_test

import (
	"testing"

	"caravel/api"
	"caravel/flow"
)

// limits tells limits of each size.
func limits() []int {
	return []int{0, 1, 2, 3, 5, 100, 1200, 65535, wide, 1 << 31, 1<<32 + 1, 1 << 53, api.MaxVar - 1, api.MaxVar}
}

// What may be: each bound, and what is just within.
func TestP20_1Bounds(t *testing.T) {
	for _, limit := range limits() {
		g := give(t, limit)
		hasLeft(t, g, limit, limit)
		newGivePair(t, limit).looks()
	}
}

// What may not be.
func TestP20_1Wrong(t *testing.T) {
	for _, limit := range append(below(), above()...) {
		if g, e := flow.NewGive(limit); g != nil || e != api.ErrArg {
			t.Errorf("NewGive(%d) = %v, %d", limit, g, int(e))
		}
	}
}

// A limit that is below, at or above that of now: the greater one is the limit, whatever was spent.
func TestP20_1Raise(t *testing.T) {
	for _, limit := range limits() {
		for _, spent := range []int{0, 1, limit / 2, limit - 1, limit} {
			if spent < 0 || spent > limit {
				continue
			}
			for _, next := range append(limits(), spent-1, spent, spent+1, limit-2, limit-1, limit+1, limit+2) {
				g := give(t, limit)
				spends(t, g, spent)
				if next < 0 || next > api.MaxVar {
					answers(t, "Raise", next, g.Raise(next), api.ErrArg)
					hasLeft(t, g, limit-spent, limit)
					continue
				}
				raises(t, g, next)
				top := max(limit, next)
				hasLeft(t, g, top-spent, top)
				raises(t, g, limit) // an earlier one that comes late
				hasLeft(t, g, top-spent, top)
			}
		}
	}
}

// A limit that is none changes nothing.
func TestP20_1RaiseWrong(t *testing.T) {
	for _, limit := range limits() {
		p := newGivePair(t, limit)
		p.spend(limit / 2)
		before := *p.g
		for _, next := range append(below(), above()...) {
			answers(t, "Raise", next, p.g.Raise(next), api.ErrArg)
		}
		if *p.g != before {
			t.Errorf("of %d something was changed", limit)
		}
		p.looks()
	}
}

// What is left, one less and one more; nothing; and what is none.
func TestP20_1Spend(t *testing.T) {
	for _, limit := range limits() {
		g := give(t, limit)
		for range 2 {
			spends(t, g, 0)
			hasLeft(t, g, limit, limit)
		}
		answers(t, "Spend", limit+1, g.Spend(limit+1), api.ErrFlow)
		hasLeft(t, g, limit, limit)
		if limit > 0 {
			spends(t, g, limit-1)
			hasLeft(t, g, 1, limit)
			answers(t, "Spend", 2, g.Spend(2), api.ErrFlow)
			answers(t, "Spend", limit+1, g.Spend(limit+1), api.ErrFlow)
			spends(t, g, 1)
		}
		hasLeft(t, g, 0, limit)
		answers(t, "Spend", 1, g.Spend(1), api.ErrFlow)
		answers(t, "Spend", limit+1, g.Spend(limit+1), api.ErrFlow)
		spends(t, g, 0)
		hasLeft(t, g, 0, limit)

		g = give(t, limit)
		spends(t, g, limit)
		hasLeft(t, g, 0, limit)
	}
}

// What is refused is not spent, not even in part; of a full range of numbers, with nothing, some and all spent.
func TestP20_1SpendRefused(t *testing.T) {
	for _, limit := range limits() {
		for _, spent := range []int{0, limit / 3, limit} {
			g := give(t, limit)
			spends(t, g, spent)
			before := *g
			for _, n := range append(odd(), limit-spent+1, limit-spent+2) {
				switch {
				case n < 0:
					answers(t, "Spend", n, g.Spend(n), api.ErrArg)
				case n > limit-spent:
					answers(t, "Spend", n, g.Spend(n), api.ErrFlow)
				}
				if *g != before {
					t.Fatalf("Spend(%d) of %d with %d spent changed something", n, limit, spent)
				}
			}
			hasLeft(t, g, limit-spent, limit)
			spends(t, g, limit-spent)
			hasLeft(t, g, 0, limit)
		}
	}
}

// All of the greatest limit, in a few pieces and raised in between.
func TestP20_1SpendMost(t *testing.T) {
	g := give(t, 1<<61)
	spends(t, g, 1<<61)
	blocks(t, g, 1<<61)
	raises(t, g, api.MaxVar)
	hasLeft(t, g, 1<<61-1, api.MaxVar)
	answers(t, "Spend", 1<<61, g.Spend(1<<61), api.ErrFlow)
	answers(t, "Spend", huge, g.Spend(huge), api.ErrFlow)
	spends(t, g, 1<<61-1)
	hasLeft(t, g, 0, api.MaxVar)
	answers(t, "Spend", huge, g.Spend(huge), api.ErrFlow)
	blocks(t, g, api.MaxVar)
	raises(t, g, api.MaxVar)
	blocks(t, g, -1)
}

// While something is left nothing is told, and that this was asked is nothing to what is told when nothing is left.
func TestP20_1Blocked(t *testing.T) {
	for _, limit := range limits()[1:] {
		g := give(t, limit)
		blocks(t, g, -1)
		spends(t, g, limit-1)
		blocks(t, g, -1)
		blocks(t, g, -1)
		answers(t, "Spend", 2, g.Spend(2), api.ErrFlow) // it is not told because something was refused
		blocks(t, g, -1)
		spends(t, g, 1)
		blocks(t, g, limit)
		for range 3 {
			blocks(t, g, -1)
			spends(t, g, 0)
			answers(t, "Spend", 1, g.Spend(1), api.ErrFlow)
			blocks(t, g, -1)
		}
		hasLeft(t, g, 0, limit)
	}
}

// A Raise that does not raise, or is refused, does not let it be told again.
func TestP20_1BlockedNotRaised(t *testing.T) {
	for _, limit := range limits() {
		g := give(t, limit)
		spends(t, g, limit)
		blocks(t, g, limit)
		raises(t, g, limit)
		blocks(t, g, -1)
		raises(t, g, limit/2)
		raises(t, g, 0)
		blocks(t, g, -1)
		for _, next := range append(below(), above()...) {
			answers(t, "Raise", next, g.Raise(next), api.ErrArg)
			blocks(t, g, -1)
		}
		hasLeft(t, g, 0, limit)
	}
}

// And ahead of being told it does not keep it from being told.
func TestP20_1BlockedNotRaisedFirst(t *testing.T) {
	for _, limit := range limits() {
		g := give(t, limit)
		spends(t, g, limit)
		raises(t, g, limit)
		raises(t, g, 0)
		answers(t, "Raise", -1, g.Raise(-1), api.ErrArg)
		answers(t, "Spend", 1, g.Spend(1), api.ErrFlow)
		blocks(t, g, limit)
		blocks(t, g, -1)
	}
}

// Behind one that does raise it is told at that limit, once nothing is left.
func TestP20_1BlockedRaised(t *testing.T) {
	for _, asked := range []bool{true, false} { // whether it was told at the lower limit
		g := give(t, 5)
		spends(t, g, 5)
		if asked {
			blocks(t, g, 5)
		}
		raises(t, g, 9)
		blocks(t, g, -1)
		spends(t, g, 3)
		blocks(t, g, -1)
		spends(t, g, 1)
		blocks(t, g, 9)
		blocks(t, g, -1)
		raises(t, g, 8)
		raises(t, g, 9)
		blocks(t, g, -1)
		raises(t, g, 10)
		blocks(t, g, -1)
		spends(t, g, 1)
		blocks(t, g, 10)
		blocks(t, g, -1)
	}
}

// A limit of 0 is told, too; and those that were raised while something was left are not.
func TestP20_1BlockedNothing(t *testing.T) {
	g := give(t, 0)
	blocks(t, g, 0)
	blocks(t, g, -1)
	raises(t, g, 0)
	spends(t, g, 0)
	blocks(t, g, -1)
	raises(t, g, 1)
	blocks(t, g, -1)
	raises(t, g, 2)
	spends(t, g, 1)
	blocks(t, g, -1)
	spends(t, g, 1)
	blocks(t, g, 2)
	blocks(t, g, -1)
}

// Looking changes nothing.
func TestP20_1Looks(t *testing.T) {
	for _, limit := range limits() {
		g := give(t, limit)
		spends(t, g, limit/2)
		before := *g
		for range 5 {
			hasLeft(t, g, limit-limit/2, limit)
		}
		if *g != before {
			t.Errorf("of %d a look changed something", limit)
		}
	}
}
