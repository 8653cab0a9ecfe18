package flow_test

import (
	"math/rand"
	"testing"

	"caravel/api"
	"caravel/flow"
)

// link is a Get whose Updates go to a Give; it keeps, apart from both, what was spent, and which limit was told last.
type link struct {
	t           *testing.T
	give        *flow.Give
	get         *flow.Get
	spent, told int
}

func newLink(t *testing.T, window int) *link {
	t.Helper()
	return &link{t, give(t, window), get(t, window), 0, window}
}

// sends spends what is left of so much, at most, and tells how much: the peer takes just that, and would take no more than is left.
func (l *link) sends(n int) int {
	l.t.Helper()
	left, limit := l.give.Left()
	if n > left {
		answers(l.t, "Spend", n, l.give.Spend(n), api.ErrFlow)
		n = left
	}
	spends(l.t, l.give, n)
	takes(l.t, l.get, n)
	l.spent += n
	came, used, bound := l.get.Told()
	if l.spent > limit || came != l.spent || came > l.told || bound != l.told || used > came || limit > l.told {
		l.t.Fatalf("%d of %d spent, came %d and used %d of %d, told %d", l.spent, limit, came, used, bound, l.told)
	}
	return n
}

// replies uses what came but for so much, and lets an Update go to the Give.
func (l *link) replies(rest int) {
	l.t.Helper()
	came, used, _ := l.get.Told()
	uses(l.t, l.get, max(came-used-rest, 0))
	if limit, ok := l.get.Update(); ok {
		if limit <= l.told {
			l.t.Fatalf("an Update to %d, behind %d", limit, l.told)
		}
		l.told = limit
		raises(l.t, l.give, limit)
	}
}

// through lets so much through, so much at once, all of which is used; it tells how many times something was spent.
func (l *link) through(all, size int) int {
	l.t.Helper()
	for times := 0; ; times++ {
		if all == 0 {
			return times
		}
		n := l.sends(min(size, all))
		if n == 0 {
			l.t.Fatalf("%d are left, and %d were spent", all, l.spent)
		}
		all -= n
		l.replies(0)
	}
}

// All goes through, with each window and each size.
func TestP20_3Through(t *testing.T) {
	for window := 1; window <= 40; window++ {
		for size := 1; size <= 85; size++ {
			l := newLink(t, window)
			l.through(500, size)
			told(t, l.get, 500, 500, l.told)
			hasLeft(t, l.give, l.told-500, l.told)
			if l.told > 500+window || l.told <= 500+window/2 {
				t.Fatalf("with a window of %d and sizes of %d the limit is %d", window, size, l.told)
			}
		}
	}
}

// So it does with large ones; and what goes through at once is more than half a window.
func TestP20_3ThroughLarge(t *testing.T) {
	const all = 1 << 40
	for _, window := range []int{1 << 29, 1<<29 + 1, wide - 2, wide - 1, wide} {
		for _, size := range []int{window / 2, window/2 + 1, window - 1, window, window + 1, huge} {
			l := newLink(t, window)
			if times := l.through(all, size); times > 2*all/window+1 {
				t.Errorf("with a window of %d and sizes of %d all goes through in %d times", window, size, times)
			}
			told(t, l.get, all, all, l.told)
		}
	}
}

// What is no more than half a window (rounded down) and one never has to be parted.
func TestP20_3Whole(t *testing.T) {
	for window := 1; window <= 60; window++ {
		for size := 1; size <= window/2+1; size++ {
			l := newLink(t, window)
			for range 200 {
				if n := l.sends(size); n != size {
					t.Fatalf("with a window of %d just %d of %d are spent", window, n, size)
				}
				l.replies(0)
			}
		}
	}
}

// As long as no more than half a window (rounded down) that came is not used, it goes on; with more it stops, just at the limit, till that is used.
func TestP20_3NotUsed(t *testing.T) {
	for window := 1; window <= 40; window++ {
		for rest := 0; rest <= window+1; rest++ {
			l := newLink(t, window)
			for times := range 50 {
				if n := l.sends(huge); n == 0 && rest <= window/2 {
					t.Fatalf("with a window of %d and a rest of %d it stops behind %d times", window, rest, times)
				}
				l.replies(rest)
			}
			came, used, limit := l.get.Told()
			if rest > window/2 && (came != limit || came-used != min(rest, window)) {
				t.Fatalf("with a window of %d and a rest of %d: came %d, used %d, limit %d", window, rest, came, used, limit)
			}
			l.replies(0)
			l.through(10*window, window)
		}
	}
}

// With a window of 0 nothing goes through, and that is told once.
func TestP20_3NoWindow(t *testing.T) {
	l := newLink(t, 0)
	blocks(t, l.give, 0)
	for range 9 {
		if n := l.sends(1); n != 0 {
			t.Fatalf("%d went through", n)
		}
		l.replies(0)
		blocks(t, l.give, -1)
	}
	told(t, l.get, 0, 0, 0)
}

// Who waits till nothing is left tells each limit once, and each is told by the peer.
func TestP20_3Blocked(t *testing.T) {
	for window := 1; window <= 40; window++ {
		l := newLink(t, window)
		for times := 1; times < 30; times++ {
			blocks(t, l.give, -1)
			l.sends(huge)
			blocks(t, l.give, times*window)
			blocks(t, l.give, -1)
			l.replies(window - (window+1)/2 + 1) // too little is used
			blocks(t, l.give, -1)
			l.replies(0)
		}
	}
}

// Updates that come late, twice or the later ones first: the greatest of them counts, and all goes through once they have come.
func TestP20_3UpdatesLate(t *testing.T) {
	random := rand.New(rand.NewSource(20))
	for range 3000 {
		window := 1 + random.Intn(50)
		g, h := give(t, window), get(t, window)
		var late []int // the limits that are on their way
		all, greatest := 20*window, window
		for spent := 0; spent < all; {
			left, limit := g.Left()
			if limit != greatest || spent > limit {
				t.Fatalf("limit %d, not %d, with %d spent", limit, greatest, spent)
			}
			n := min(random.Intn(window+1), left, all-spent)
			spends(t, g, n)
			takes(t, h, n)
			spent += n
			came, used, _ := h.Told()
			uses(t, h, random.Intn(came-used+1))
			if limit, ok := h.Update(); ok {
				late = append(late, limit)
			}
			if len(late) > 0 && random.Intn(3) > 0 {
				one := random.Intn(len(late))
				raises(t, g, late[one])
				greatest = max(greatest, late[one])
				if random.Intn(3) > 0 { // else it comes once more
					late = append(late[:one], late[one+1:]...)
				}
			}
		}
		if came, _, limit := h.Told(); came != all || came > limit {
			t.Fatalf("%d came, with a limit of %d", came, limit)
		}
	}
}

// Each row of few calls of a Give with a small limit.
func TestP20_3EveryGive(t *testing.T) {
	for limit := range 4 {
		newGivePair(t, limit).every(6)
	}
	newGivePair(t, api.MaxVar-1).every(4)
	newGivePair(t, api.MaxVar).every(3)
}

func (p givePair) every(calls int) {
	p.t.Helper()
	if calls == 0 {
		return
	}
	for _, step := range []func(givePair){
		givePair.blocked,
		func(p givePair) { p.spend(1) },
		func(p givePair) { p.spend(2) },
		func(p givePair) { p.spend(p.m.limit) },
		func(p givePair) { p.raise(p.m.limit - 1) },
		func(p givePair) { p.raise(p.m.limit + 1) },
		func(p givePair) { p.raise(3) },
	} {
		fork := p.fork()
		step(fork)
		fork.every(calls - 1)
	}
}

// Each row of few calls of a Get with a small window.
func TestP20_3EveryGet(t *testing.T) {
	for window := range 6 {
		newGetPair(t, window).every(7)
	}
}

func (p getPair) every(calls int) {
	p.t.Helper()
	if calls == 0 {
		return
	}
	for _, step := range []func(getPair){
		getPair.update,
		func(p getPair) { p.take(1) },
		func(p getPair) { p.take(2) },
		func(p getPair) { p.take(p.m.window) },
		func(p getPair) { p.uses(1) },
		func(p getPair) { p.uses(2) },
	} {
		fork := p.fork()
		step(fork)
		fork.every(calls - 1)
	}
}

// reached counts which edges calls by chance came to: without that they would ask for little.
type reached map[string]int

func (r reached) all(t *testing.T, edges ...string) {
	t.Helper()
	for _, edge := range edges {
		if r[edge] < 50 {
			t.Errorf("%q was come to %d times", edge, r[edge])
		}
	}
}

// place tells where a number is of another one.
func place(n, of int) string {
	switch {
	case n < 0:
		return "none"
	case n == 0:
		return "nothing"
	case n == of-1:
		return "one less"
	case n == of:
		return "just"
	case of < huge && n == of+1:
		return "one more"
	case n > of:
		return "more"
	}
	return "less"
}

// near tells a number by chance: mostly one that has to do with another one.
func near(random *rand.Rand, of int) int {
	switch random.Intn(9) {
	case 0:
		return odd()[random.Intn(len(odd()))]
	case 1:
		return 0
	case 2, 3:
		return of - 1 + random.Intn(3)
	case 4, 5:
		return of
	}
	return random.Intn(max(of, 0) + 2)
}

// size tells a number from 0 to most by chance: small ones as often as great ones.
func size(random *rand.Rand, most int) int {
	return random.Intn(1<<random.Intn(63)) % (most + 1)
}

// Gives by chance, each held against the chapter's words.
func TestP20_3RandomGive(t *testing.T) {
	random := rand.New(rand.NewSource(2001))
	r := reached{}
	for range 4000 {
		p := newGivePair(t, size(random, api.MaxVar))
		for range 40 {
			left := p.m.limit - p.m.spent
			switch random.Intn(4) {
			case 0:
				next := near(random, p.m.limit)
				r["raise, "+place(next, p.m.limit)]++
				p.raise(next)
			case 1:
				r["blocked, "+p.m.why()]++
				p.blocked()
			default:
				n := near(random, left)
				r["spend, "+place(n, left)]++
				p.spend(n)
			}
		}
		p.looks()
	}
	for _, call := range []string{"raise, ", "spend, "} {
		r.all(t, call+"none", call+"nothing", call+"less", call+"one less", call+"just", call+"one more", call+"more")
	}
	r.all(t, "blocked, told", "blocked, tells", "blocked, left")
}

// Gets by chance.
func TestP20_3RandomGet(t *testing.T) {
	random := rand.New(rand.NewSource(2002))
	r := reached{}
	for range 4000 {
		p := newGetPair(t, size(random, wide))
		half := p.m.window - p.m.window/2
		last := p.m.window // the limit that was told last
		for range 60 {
			room, waits := p.m.limit-p.m.came, p.m.came-p.m.used
			worth := half - (p.m.used + p.m.window - p.m.limit) // how much is to be used till the next Update
			switch random.Intn(4) {
			case 0, 1:
				n := near(random, room)
				r["take, "+place(n, room)]++
				p.take(n)
			case 2:
				n := near(random, waits)
				if random.Intn(2) == 0 {
					n = worth - 1 + random.Intn(3)
				}
				r["used, "+place(n, waits)]++
				p.uses(n)
			default:
				r["update, "+[]string{"even, ", "odd, "}[p.m.window%2]+place(p.m.used+p.m.window-p.m.limit, half)]++
				p.update()
				last = p.m.limit
			}
			if came, _, limit := p.g.Told(); came > last || limit != last {
				t.Fatalf("%d came, with a limit of %d, and %d was told last", came, limit, last)
			}
		}
		p.looks()
	}
	for _, call := range []string{"take, ", "used, "} {
		r.all(t, call+"none", call+"nothing", call+"less", call+"one less", call+"just", call+"one more", call+"more")
	}
	for _, call := range []string{"update, even, ", "update, odd, "} {
		r.all(t, call+"nothing", call+"less", call+"one less", call+"just", call+"one more", call+"more")
	}
}
