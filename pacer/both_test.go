package pacer_test

import (
	"math/big"
	"math/rand"
	"testing"

	"caravel/api"
)

// looks holds what is told against the model, about the pacer's time and about what it has, at some rate.
func (p pair) looks(window, rtt int) {
	p.t.Helper()
	at, has, burst := number(p.m.at), number(p.m.bytes), number(p.m.burst)
	for _, now := range []int{at - 1, at, at + 1, at + 2, at + 999, at + most - 1, at + most, at + most + 1, huge} {
		p.budget(now, window, rtt)
	}
	for _, bytes := range []int{-1, 0, 1, has - 1, has, has + 1, has + 2, (has + burst) / 2, burst - 1, burst, burst + 1} {
		p.when(bytes, window, rtt)
	}
}

func number(n *big.Int) int { return int(n.Int64()) }

// Every row of few calls.
func TestP17_5Every(t *testing.T) {
	calls := []func(pair){
		func(p pair) { p.sent(0, 0, 4, 5) },
		func(p pair) { p.sent(0, 1003, 3, 5) },
		func(p pair) { p.sent(1200, 2000, 7, 3) },
		func(p pair) { p.sent(5000, 1003, 4, 0) },
		func(p pair) { p.sent(12000, 1500, 4, 5) },
		func(p pair) { p.sent(3, 9000, 0, 5) },
		func(p pair) { p.sent(huge, 0, 1, 1) },
		func(p pair) { p.sent(500, end, 1, 12345678) },
		func(p pair) { p.sent(1, end+1, 4, 5) },
		func(p pair) { p.sent(-1, 9999, 4, 5) },
	}
	count := len(calls)
	for row := range count * count * count * count {
		p := newPair(t, 1200)
		for range 4 {
			calls[row%count](p)
			row /= count
		}
		p.looks(7, 40)
	}
}

// reached counts which edges calls by chance came to: without that they would ask for little.
type reached struct {
	none, some, full, back, still, late, never, longest, over, even, beyond int
}

func (r *reached) note(p pair, window, rtt int) {
	count := func(n *int, is bool) {
		if is {
			*n++
		}
	}
	count(&r.none, p.m.bytes.Sign() == 0)
	count(&r.some, p.m.bytes.Sign() > 0 && p.m.bytes.Cmp(p.m.burst) < 0)
	count(&r.full, p.m.bytes.Cmp(p.m.burst) == 0)
	at, e := p.m.when(number(p.m.burst), window, rtt)
	count(&r.never, e == api.ErrNone)
	if e != api.OK || at.Cmp(p.m.at) == 0 {
		return
	}
	wait := minus(at, p.m.at)
	count(&r.longest, wait.Cmp(whole(long)) == 0)
	count(&r.beyond, wait.Cmp(whole(most)) > 0)
	w, round := counted(window, rtt)
	above, below := times(whole(4), round, minus(p.m.burst, p.m.bytes)), times(whole(5), w)
	rest := new(big.Int).Mod(above, below)
	count(&r.even, rest.Sign() == 0)
	count(&r.over, rest.Sign() > 0)
}

// time counts where a call lies beside the pacer's time.
func (r *reached) time(p pair, now int) {
	switch c := whole(now).Cmp(p.m.at); {
	case c < 0:
		r.back++
	case c == 0:
		r.still++
	default:
		r.late++
	}
}

func (r reached) all() bool {
	return min(r.none, r.some, r.full, r.back, r.still, r.late, r.never, r.longest, r.over, r.even, r.beyond) > 50
}

// sizes tells a size by chance, the edges more often than others.
func sizes(random *rand.Rand) int {
	switch random.Intn(5) {
	case 0:
		return 1200 + random.Intn(3)
	case 1:
		return 65535 - random.Intn(3)
	case 2:
		return 1200 + random.Intn(300)
	}
	return 1200 + random.Intn(64336)
}

// Connections by chance: packets are sent when they may be, or ahead of that, or late, and now and then nothing is for long.
func TestP17_5Random(t *testing.T) {
	random := rand.New(rand.NewSource(17))
	var r reached
	for range 500 {
		size := sizes(random)
		p := newPair(t, size)
		window, rtt := random.Intn(1<<(1+random.Intn(31))), random.Intn(1<<(1+random.Intn(51)))
		now := random.Intn(1000)
		for range 60 {
			switch random.Intn(12) {
			case 0:
				window = random.Intn(1 << (1 + random.Intn(31)))
			case 1:
				rtt = random.Intn(1 << (1 + random.Intn(51)))
			case 2:
				window = 4 * random.Intn(3)
			case 3: // just so much that a wait is whole
				window, rtt = 4<<random.Intn(20), 5<<random.Intn(20)
			}
			bytes := 1 + random.Intn(size)
			switch random.Intn(10) {
			case 0:
				now = min(number(p.m.at)+random.Intn(1<<(1+random.Intn(50))), end)
			case 1:
				now = max(number(p.m.at)-random.Intn(3), 0)
			case 2:
				bytes = random.Intn(11 * size)
			case 3:
				bytes = number(p.m.budget(now, window, rtt)) + random.Intn(3)
			case 4: // nothing, for long
				bytes, now = 0, min(number(p.m.at)+random.Intn(1<<(1+random.Intn(40))), end)
			default: // as soon as they may be
				if at, e := p.p.When(bytes, window, rtt); e == api.OK && at <= end {
					now = at
				}
			}
			r.time(p, now)
			p.sent(bytes, now, window, rtt)
			p.looks(window, rtt)
			r.note(p, window, rtt)
		}
	}
	if !r.all() {
		t.Errorf("not every edge was come to: %+v", r)
	}
}

// Any numbers at all.
func TestP17_5RandomAny(t *testing.T) {
	random := rand.New(rand.NewSource(1717))
	edges := []int{low, -end, -1, 0, 1, 2, 4, 5, 1200, 12000, 655350, 655351, most - 1, most, most + 1, end - 1, end, end + 1, long, huge - end, huge}
	some := func() int {
		if random.Intn(3) > 0 {
			return edges[random.Intn(len(edges))]
		}
		return random.Intn(1 << random.Intn(63))
	}
	for range 600 {
		p := newPair(t, sizes(random))
		for range 150 {
			bytes, now := some(), some()
			if random.Intn(2) == 0 {
				bytes, now = random.Intn(700000), random.Intn(1<<(1+random.Intn(50)))
			}
			p.sent(bytes, now, some(), some())
			p.budget(some(), some(), some())
			p.budget(number(p.m.at)+random.Intn(1000), some(), some())
			p.when(some(), some(), some())
			p.when(random.Intn(700000), some(), some())
		}
	}
}

// Who sends packets as soon as they may be never sends more than the burst and what came in.
func TestP17_5Pace(t *testing.T) {
	for _, c := range []struct{ size, window, rtt int }{
		{1200, 12000, 100000}, {1200, 4, 5}, {1500, 100000, 333}, {65535, most, 1000}, {9000, 7, 0}, {1200, 1, 17},
	} {
		p := begin(t, c.size)
		sent, now := 0, 0
		for range 1000 {
			at, e := p.When(c.size, c.window, c.rtt)
			if e != api.OK || at < now {
				t.Fatalf("%v: When is %d, %d behind %d", c, at, int(e), now)
			}
			now = at
			sends(t, p, c.size, now, c.window, c.rtt)
			sent += c.size
			came := number(parts(times(whole(5*c.window), whole(now)), whole(4*max(c.rtt, 1))))
			if sent > 10*c.size+came {
				t.Fatalf("%v: %d bytes are sent at %d", c, sent, now)
			}
		}
		if c.window == 12000 && now != 7920000 { // 990 packets, each behind 8000 microseconds
			t.Errorf("%v: the last one is sent at %d", c, now)
		}
	}
}
