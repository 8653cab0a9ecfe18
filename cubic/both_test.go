package cubic_test

import (
	"math"
	"math/rand"
	"testing"

	"caravel/cubic"
)

// Every row of few calls, from a window that fell from 1000000 on.
func TestP16_5Every(t *testing.T) {
	calls := []func(pair){
		func(p pair) { p.acked(700000, 20, 5000000, 0, true) },
		func(p pair) { p.acked(700000, 20, 5000000, 0, false) },
		func(p pair) { p.acked(0, 30, 1000000, 0, true) },
		func(p pair) { p.acked(300000, 31, 2000000, 7000000, true) },
		func(p pair) { p.acked(1<<20, 1000001, 20000000, 100000, true) },
		func(p pair) { p.acked(1200, 0, 30, 1000, true) },
		func(p pair) { p.lost(10, 20) },
		func(p pair) { p.lost(30, 1000000) },
		func(p pair) { p.lost(2000000, 30) },
		func(p pair) { p.collapse() },
	}
	count := len(calls)
	for _, kind := range []int{cubic.Reno, cubic.Cubic} {
		for row := range count * count * count * count {
			p := newPair(t, kind, 1471)
			p.acked(1000000-14710, 0, 0, 0, true)
			p.lost(5, 10)
			for range 4 {
				calls[row%count](p)
				row /= count
			}
		}
	}
}

// reached counts which edges calls by chance came to: without that they would ask for little.
type reached struct {
	ahead, at, behind, low, high, least, greatest, est, full, before, two int
}

func (r *reached) note(p pair) {
	count := func(n *int, is bool) {
		if is {
			*n++
		}
	}
	m := p.m
	count(&r.full, m.bytes.Cmp(whole(most)) == 0)
	count(&r.two, m.bytes.Cmp(whole(2*p.size)) == 0)
	if m.before == nil {
		return
	}
	count(&r.ahead, m.apart.Sign() < 0)
	count(&r.at, m.apart.Sign() == 0)
	count(&r.behind, m.apart.Sign() > 0)
	count(&r.before, m.millis.Sign() < 0)
	count(&r.low, m.apart.Cmp(whole(-1000000)) == 0)
	count(&r.high, m.millis.Cmp(whole(1000000)) == 0)
	count(&r.least, m.target.Cmp(m.before) < 0)
	count(&r.greatest, m.target.Cmp(parts(times(whole(3), m.before), whole(2))) > 0)
	count(&r.est, m.bytes.Cmp(m.est) == 0 && m.bytes.Cmp(m.before) > 0)
}

func (r reached) all() bool {
	return min(r.ahead, r.at, r.behind, r.low, r.high, r.least, r.greatest, r.est, r.full, r.before, r.two) > 20
}

// near tells a size by chance, the edges more often than others.
func near(random *rand.Rand) int {
	switch random.Intn(5) {
	case 0:
		return 1200 + random.Intn(3)
	case 1:
		return 65535 - random.Intn(3)
	case 2:
		return 1200 + random.Intn(300)
	}
	return 1200 + random.Intn(64336)
}

// Connections by chance: time goes on by rounds, something arrives, now and then something is lost.
func TestP16_5Random(t *testing.T) {
	random := rand.New(rand.NewSource(16))
	var r reached
	for i := range 400 {
		p := newPair(t, i%2, near(random))
		now, rtt, step := random.Intn(1000), 1+random.Intn(1<<random.Intn(25)), 1+random.Intn(1<<(1+random.Intn(24)))
		if random.Intn(4) == 0 { // a great window
			for range random.Intn(1200) {
				p.w.Acked(1<<20, now, now, 0, true)
				p.m.acked(1<<20, now, now, 0, true)
			}
			p.looks()
		}
		for range 150 {
			now = min(now+random.Intn(step), end)
			sent := max(0, now-random.Intn(2*rtt))
			switch random.Intn(30) {
			case 0:
				p.lost(sent, now)
			case 1:
				p.lost(now, now)
			case 2:
				p.acked(random.Intn(1<<20+1), sent, now, rtt, false)
			case 3:
				p.acked(random.Intn(1<<20+1), now, now, rtt, true)
			case 4, 5, 6, 7: // a whole window, if it may be as many
				bytes, _, _ := p.w.Told()
				p.acked(min(bytes, 1<<20), now, now, rtt, true)
			case 8:
				if random.Intn(8) == 0 {
					p.collapse()
				}
			case 9: // just where the curve is flat
				if p.m.flat != nil {
					p.acked(50000, now, now, min(end, max(0, int(p.m.flat.Int64())*1000-(now-int(p.m.epoch.Int64())))), true)
				}
			default:
				p.acked(random.Intn(1<<(1+random.Intn(20))), sent, now, random.Intn(2*rtt), true)
			}
			r.note(p)
		}
	}
	wild(t, random, &r)
	if !r.all() {
		t.Errorf("not every edge was come to: %+v", r)
	}
}

// wild calls with times that jump and go back.
func wild(t *testing.T, random *rand.Rand, r *reached) {
	at := func() int {
		switch random.Intn(4) {
		case 0:
			return random.Intn(3)
		case 1:
			return end - random.Intn(3)
		}
		return random.Intn(1 << (1 + random.Intn(50)))
	}
	for i := range 400 {
		p := newPair(t, i%2, near(random))
		for range 100 {
			a, b := at(), at()
			switch random.Intn(12) {
			case 0:
				p.lost(a, b)
			case 1:
				p.lost(b, min(a, 100))
			case 2:
				if random.Intn(4) == 0 {
					p.collapse()
				}
			default:
				p.acked(random.Intn(1<<20+1), min(a, b), max(a, b), at(), random.Intn(9) > 0)
			}
			r.note(p)
		}
	}
}

// Any numbers at all.
func TestP16_5RandomAny(t *testing.T) {
	random := rand.New(rand.NewSource(1616))
	edges := []int{math.MinInt, -end, -1, 0, 1, 2, 1200, 2400, 14720, 1<<20 - 1, 1 << 20, 1<<20 + 1, most, end - 1, end, end + 1, math.MaxInt - end, math.MaxInt}
	number := func() int {
		if random.Intn(3) > 0 {
			return edges[random.Intn(len(edges))]
		}
		return random.Intn(1 << random.Intn(63))
	}
	for i := range 500 {
		p := newPair(t, i%2, near(random))
		for range 200 {
			switch random.Intn(10) {
			case 0:
				p.lost(number(), number())
			case 1:
				p.lost(random.Intn(end), random.Intn(1000))
			default:
				p.acked(number(), number(), number(), number(), random.Intn(9) > 0)
			}
		}
	}
}

// Root of any number: its cube is not above it, and the next one's is.
func TestP16_1RootRandom(t *testing.T) {
	random := rand.New(rand.NewSource(161))
	for range 20000 {
		n := random.Intn(1<<random.Intn(63)) + random.Intn(3)
		if random.Intn(4) == 0 {
			n = math.MaxInt - n
		}
		if got, want := cubic.Root(n), cubeRoot(whole(n)); whole(got).Cmp(want) != 0 {
			t.Fatalf("Root(%d) = %d, not %v", n, got, want)
		}
	}
}
