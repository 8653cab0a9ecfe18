package flow_test

import (
	"testing"

	"caravel/api"
	"caravel/flow"
)

// windows tells windows of each size, odd and even.
func windows() []int {
	return []int{0, 1, 2, 3, 4, 5, 9, 10, 1200, 65535, 1 << 20, wide - 2, wide - 1, wide}
}

// halves tells half of windows, rounded up, written out.
func halves() map[int]int {
	return map[int]int{1: 1, 2: 1, 3: 2, 4: 2, 5: 3, 6: 3, 7: 4, 9: 5, 10: 5, 99: 50, 100: 50, 65535: 32768, 1 << 20: 1 << 19, wide - 2: 1<<29 - 1, wide - 1: 1 << 29, wide: 1 << 29}
}

// What may be: each bound, and what is just within.
func TestP20_2Bounds(t *testing.T) {
	for _, window := range windows() {
		told(t, get(t, window), 0, 0, window)
		newGetPair(t, window).looks()
	}
}

// What may not be.
func TestP20_2Wrong(t *testing.T) {
	for _, window := range append(append(below(), wide+1, wide+2, 1<<31-1, 1<<31, 1<<32, 1<<32+10, api.MaxVar-1, api.MaxVar), above()...) {
		if g, e := flow.NewGet(window); g != nil || e != api.ErrArg {
			t.Errorf("NewGet(%d) = %v, %d", window, g, int(e))
		}
	}
}

// Up to the limit, one less and one more.
func TestP20_2Take(t *testing.T) {
	for _, window := range windows() {
		g := get(t, window)
		takes(t, g, 0)
		told(t, g, 0, 0, window)
		answers(t, "Take", window+1, g.Take(window+1), api.ErrFlow)
		told(t, g, 0, 0, window)
		if window > 0 {
			takes(t, g, window-1)
			told(t, g, window-1, 0, window)
			answers(t, "Take", 2, g.Take(2), api.ErrFlow)
			answers(t, "Take", window+1, g.Take(window+1), api.ErrFlow)
			told(t, g, window-1, 0, window)
			takes(t, g, 1)
		}
		told(t, g, window, 0, window)
		answers(t, "Take", 1, g.Take(1), api.ErrFlow)
		takes(t, g, 0)
		told(t, g, window, 0, window)

		g = get(t, window)
		takes(t, g, window)
		told(t, g, window, 0, window)
	}
}

// What is refused has not come, not even in part.
func TestP20_2TakeRefused(t *testing.T) {
	for _, window := range windows() {
		for _, came := range []int{0, window / 3, window} {
			g := get(t, window)
			takes(t, g, came)
			uses(t, g, came/2)
			before := *g
			for _, n := range append(odd(), window-came+1, window-came+2) {
				switch {
				case n < 0:
					answers(t, "Take", n, g.Take(n), api.ErrArg)
				case n > window-came:
					answers(t, "Take", n, g.Take(n), api.ErrFlow)
				}
				if *g != before {
					t.Fatalf("Take(%d) of %d with %d that came changed something", n, window, came)
				}
			}
			told(t, g, came, came/2, window)
			takes(t, g, window-came)
			told(t, g, window, came/2, window)
		}
	}
}

// What came, one less and one more.
func TestP20_2Used(t *testing.T) {
	for _, window := range windows()[1:] {
		for _, came := range []int{1, (window + 1) / 2, window} {
			g := get(t, window)
			answers(t, "Used", 1, g.Used(1), api.ErrArg) // nothing came
			uses(t, g, 0)
			takes(t, g, came)
			uses(t, g, 0)
			told(t, g, came, 0, window)
			answers(t, "Used", came+1, g.Used(came+1), api.ErrArg)
			told(t, g, came, 0, window)
			uses(t, g, came-1)
			told(t, g, came, came-1, window)
			answers(t, "Used", 2, g.Used(2), api.ErrArg)
			answers(t, "Used", came+1, g.Used(came+1), api.ErrArg)
			uses(t, g, 1)
			told(t, g, came, came, window)
			answers(t, "Used", 1, g.Used(1), api.ErrArg)
			uses(t, g, 0)
			told(t, g, came, came, window)
		}
	}
}

// What is refused was not used, not even in part.
func TestP20_2UsedRefused(t *testing.T) {
	for _, window := range windows() {
		for _, came := range []int{0, window / 2, window} {
			for _, used := range []int{0, came / 3, came} {
				g := get(t, window)
				takes(t, g, came)
				uses(t, g, used)
				before := *g
				for _, n := range append(odd(), came-used+1, came-used+2) {
					if n < 0 || n > came-used {
						answers(t, "Used", n, g.Used(n), api.ErrArg)
					}
					if *g != before {
						t.Fatalf("Used(%d) of %d, of which %d were used, changed something", n, came, used)
					}
				}
				told(t, g, came, used, window)
				uses(t, g, came-used)
				told(t, g, came, came, window)
			}
		}
	}
}

// Half a window, rounded up, one less and one more, at once and in two parts, whatever more came.
func TestP20_2Update(t *testing.T) {
	for window, half := range halves() {
		for _, came := range []int{half, min(half+1, window), window} {
			g := get(t, window)
			updates(t, g, -1)
			takes(t, g, came)
			updates(t, g, -1)
			uses(t, g, half-1)
			updates(t, g, -1)
			updates(t, g, -1)
			told(t, g, came, half-1, window)
			uses(t, g, 1)
			told(t, g, came, half, window) // it is raised by the Update alone
			updates(t, g, half+window)
			updates(t, g, -1)
			told(t, g, came, half, half+window)

			g = get(t, window)
			takes(t, g, came)
			uses(t, g, half)
			updates(t, g, half+window)
			updates(t, g, -1)

			if more := half + 1; more <= came {
				g = get(t, window)
				takes(t, g, came)
				uses(t, g, more)
				updates(t, g, more+window)
				updates(t, g, -1)
			}
		}
	}
}

// Behind an Update half a window more is to be used; what was used beyond it counts.
func TestP20_2UpdateAgain(t *testing.T) {
	for window, half := range halves() {
		g := get(t, window)
		at := 0
		for range 7 {
			takes(t, g, half)
			uses(t, g, half-1)
			updates(t, g, -1)
			uses(t, g, 1)
			at += half
			updates(t, g, at+window)
			updates(t, g, -1)
			told(t, g, at, at, at+window)
		}
		for range 7 { // all of a window at once
			takes(t, g, window)
			uses(t, g, window)
			at += window
			updates(t, g, at+window)
			updates(t, g, -1)
		}
		told(t, g, at, at, at+window)
	}
}

// What was used without an Update between is told with the next one.
func TestP20_2UpdateLate(t *testing.T) {
	g := get(t, 10)
	takes(t, g, 10)
	uses(t, g, 5)
	uses(t, g, 4)
	updates(t, g, 19)
	takes(t, g, 9)
	uses(t, g, 4)
	updates(t, g, -1) // 23 is four above
	uses(t, g, 1)
	updates(t, g, 24)
}

// Just up to the new limit may come behind an Update, and not ahead of it.
func TestP20_2TakeBehindUpdate(t *testing.T) {
	for window, half := range halves() {
		for _, came := range []int{half, window} {
			g := get(t, window)
			takes(t, g, came)
			uses(t, g, half)
			answers(t, "Take", window-came+1, g.Take(window-came+1), api.ErrFlow)
			updates(t, g, half+window)
			answers(t, "Take", half+window-came+1, g.Take(half+window-came+1), api.ErrFlow)
			for _, n := range above() {
				answers(t, "Take", n, g.Take(n), api.ErrFlow)
			}
			told(t, g, came, half, half+window)
			takes(t, g, half+window-came)
			told(t, g, half+window, half, half+window)
			answers(t, "Take", 1, g.Take(1), api.ErrFlow)
		}
	}
}

// An Update that tells nothing raises nothing.
func TestP20_2TakeBehindNoUpdate(t *testing.T) {
	for window, half := range halves() {
		g := get(t, window)
		takes(t, g, window)
		uses(t, g, half-1)
		updates(t, g, -1)
		answers(t, "Take", 1, g.Take(1), api.ErrFlow)
		told(t, g, window, half-1, window)
	}
}

// A window of 0 lets nothing through, and has nothing to tell.
func TestP20_2NoWindow(t *testing.T) {
	g := get(t, 0)
	for range 3 {
		updates(t, g, -1)
		takes(t, g, 0)
		uses(t, g, 0)
		updates(t, g, -1)
		answers(t, "Take", 1, g.Take(1), api.ErrFlow)
		answers(t, "Used", 1, g.Used(1), api.ErrArg)
		told(t, g, 0, 0, 0)
	}
}

// Looking changes nothing.
func TestP20_2Looks(t *testing.T) {
	for _, window := range windows() {
		g := get(t, window)
		takes(t, g, window)
		uses(t, g, window)
		before := *g
		for range 5 {
			told(t, g, window, window, window)
		}
		if *g != before {
			t.Errorf("with a window of %d a look changed something", window)
		}
	}
}
