package flow_test

import (
	"testing"

	"caravel/api"
	"caravel/flow"
)

// give tells a new Give.
func give(t *testing.T, limit int) *flow.Give {
	g, e := flow.NewGive(limit)
	if g == nil || e != api.OK {
		t.Helper()
		t.Fatalf("NewGive(%d) = %v, %d", limit, g, int(e))
	}
	return g
}

// get tells a new Get.
func get(t *testing.T, window int) *flow.Get {
	g, e := flow.NewGet(window)
	if g == nil || e != api.OK {
		t.Helper()
		t.Fatalf("NewGet(%d) = %v, %d", window, g, int(e))
	}
	return g
}

// answers asks for what a call answered.
func answers(t *testing.T, call string, n int, got, want api.Errno) {
	if got != want {
		t.Helper()
		t.Fatalf("%s(%d) = %d, not %d", call, n, int(got), int(want))
	}
}

func raises(t *testing.T, g *flow.Give, limit int) {
	t.Helper()
	answers(t, "Raise", limit, g.Raise(limit), api.OK)
}

func spends(t *testing.T, g *flow.Give, n int) {
	t.Helper()
	answers(t, "Spend", n, g.Spend(n), api.OK)
}

// hasLeft asks for what is left, and the limit.
func hasLeft(t *testing.T, g *flow.Give, left, limit int) {
	if a, b := g.Left(); a != left || b != limit {
		t.Helper()
		t.Fatalf("Left = %d, %d, not %d, %d", a, b, left, limit)
	}
}

// blocks asks for what Blocked tells: -1 if nothing.
func blocks(t *testing.T, g *flow.Give, limit int) {
	t.Helper()
	n, ok := g.Blocked()
	tells(t, "Blocked", n, ok, limit)
}

func tells(t *testing.T, call string, n int, ok bool, want int) {
	if n != max(want, 0) || ok != (want >= 0) {
		t.Helper()
		t.Fatalf("%s = %d, %v, not %d", call, n, ok, want)
	}
}

func takes(t *testing.T, g *flow.Get, n int) {
	t.Helper()
	answers(t, "Take", n, g.Take(n), api.OK)
}

func uses(t *testing.T, g *flow.Get, n int) {
	t.Helper()
	answers(t, "Used", n, g.Used(n), api.OK)
}

// updates asks for what Update tells: -1 if nothing.
func updates(t *testing.T, g *flow.Get, limit int) {
	t.Helper()
	n, ok := g.Update()
	tells(t, "Update", n, ok, limit)
}

// told asks for what came, what was used, and the limit.
func told(t *testing.T, g *flow.Get, came, used, limit int) {
	if a, b, c := g.Told(); a != came || b != used || c != limit {
		t.Helper()
		t.Fatalf("Told = %d, %d, %d, not %d, %d, %d", a, b, c, came, used, limit)
	}
}

// The chapter's example of a Give.
func TestP20_1Example(t *testing.T) {
	g := give(t, 5)
	spends(t, g, 3)
	hasLeft(t, g, 2, 5)
	answers(t, "Spend", 3, g.Spend(3), api.ErrFlow)
	hasLeft(t, g, 2, 5)
	spends(t, g, 2)
	blocks(t, g, 5)
	blocks(t, g, -1)
	raises(t, g, 9)
	hasLeft(t, g, 4, 9)
}

// The chapter's example of a Get.
func TestP20_2Example(t *testing.T) {
	g := get(t, 10)
	takes(t, g, 6)
	uses(t, g, 4)
	updates(t, g, -1)
	uses(t, g, 1)
	updates(t, g, 15)
	answers(t, "Take", 10, g.Take(10), api.ErrFlow)
	told(t, g, 6, 5, 15)
}

// The numbers of the errors, as the chapter and the package of them have them.
func TestP20_1Numbers(t *testing.T) {
	g := give(t, 0)
	if e := g.Spend(1); int(e) != 30 {
		t.Error(int(e))
	}
	if e := g.Spend(-1); int(e) != 2 {
		t.Error(int(e))
	}
	if e := (*flow.Give)(nil).Spend(1); int(e) != 1 {
		t.Error(int(e))
	}
}

// Of a Give that is nil, or that no call made, nothing is told, and nothing is done, whatever comes.
func TestP20_1None(t *testing.T) {
	var plain flow.Give
	for _, g := range []*flow.Give{nil, &plain, {}, new(flow.Give)} {
		for range 3 {
			for _, n := range odd() {
				answers(t, "Raise", n, g.Raise(n), api.ErrNil)
				answers(t, "Spend", n, g.Spend(n), api.ErrNil)
			}
			hasLeft(t, g, 0, 0)
			blocks(t, g, -1)
		}
	}
	if plain != (flow.Give{}) {
		t.Error("a plain one was changed")
	}
}

// Nor of a Get.
func TestP20_2None(t *testing.T) {
	var plain flow.Get
	for _, g := range []*flow.Get{nil, &plain, {}, new(flow.Get)} {
		for range 3 {
			for _, n := range odd() {
				answers(t, "Take", n, g.Take(n), api.ErrNil)
				answers(t, "Used", n, g.Used(n), api.ErrNil)
			}
			updates(t, g, -1)
			told(t, g, 0, 0, 0)
		}
	}
	if plain != (flow.Get{}) {
		t.Error("a plain one was changed")
	}
}

// What was made with nothing is a side all the same: none that no call made.
func TestP20_3Nothing(t *testing.T) {
	g := give(t, 0)
	if *g == (flow.Give{}) {
		t.Error("a Give of 0 is a plain one")
	}
	blocks(t, g, 0)
	if *g == (flow.Give{}) {
		t.Error("a Give of 0 that told it is a plain one")
	}
	hasLeft(t, g, 0, 0)
	answers(t, "Spend", 1, g.Spend(1), api.ErrFlow)
	raises(t, g, 0)
	raises(t, g, 1)
	spends(t, g, 1)
	h := get(t, 0)
	if *h == (flow.Get{}) {
		t.Error("a Get of 0 is a plain one")
	}
	answers(t, "Take", 1, h.Take(1), api.ErrFlow)
	takes(t, h, 0)
	uses(t, h, 0)
	answers(t, "Used", 1, h.Used(1), api.ErrArg)
}

// What becomes of one side is nothing to another.
func TestP20_3Apart(t *testing.T) {
	a, b := give(t, 5), give(t, 5)
	spends(t, a, 5)
	blocks(t, a, 5)
	hasLeft(t, b, 5, 5)
	blocks(t, b, -1)
	raises(t, b, 9)
	hasLeft(t, a, 0, 5)
	blocks(t, a, -1)
	hasLeft(t, give(t, 5), 5, 5)
	c, d := get(t, 10), get(t, 10)
	takes(t, c, 10)
	uses(t, c, 10)
	updates(t, c, 20)
	told(t, d, 0, 0, 10)
	updates(t, d, -1)
	answers(t, "Take", 11, d.Take(11), api.ErrFlow)
	told(t, get(t, 10), 0, 0, 10)
}
