package ledger_test

import (
	"math"
	"math/rand"
	"slices"
	"testing"

	"caravel/api"
	"caravel/ledger"
)

// Every row of few calls behind one packet, with numbers and times that lie close together.
func TestP15_5Every(t *testing.T) {
	type state struct {
		pair
		next, now *int
	}
	var calls []func(state)
	for _, skip := range []int{0, 2} {
		for _, eliciting := range []bool{false, true} {
			calls = append(calls, func(s state) {
				*s.next += 1 + skip
				*s.now++
				s.sent(ledger.Packet{Number: *s.next, At: *s.now, Size: 1 + *s.next, Eliciting: eliciting})
			})
		}
	}
	for below := range 4 { // the last, and so many below it
		calls = append(calls, func(s state) { s.acked(spans(*s.next-below, *s.next-below), *s.now, 2) })
	}
	calls = append(calls,
		func(s state) { s.acked(spans(*s.next-1, *s.next), *s.now, 3) },
		func(s state) { s.acked(spans(*s.next, *s.next, *s.next-3, *s.next-2), *s.now, end) },
		func(s state) { s.passed(*s.now, 1) },
		func(s state) { *s.now += 2; s.passed(*s.now, 3) },
		func(s state) { s.clear() },
	)
	const length = 5
	rows := 1
	for range length {
		rows *= len(calls)
	}
	for row := range rows {
		s := state{newPair(t), new(int), new(int)}
		s.sent(eliciting(0, 0))
		for range length {
			calls[row%len(calls)](s)
			row /= len(calls)
		}
	}
}

// someSpans tells spans of numbers that were sent, from low on; now and then one number more.
func someSpans(random *rand.Rand, m *model, low int) (list []api.Span) {
	share := 1 + random.Intn(10)
	upto := math.MaxInt
	if len(m.all) > 0 {
		upto = m.all[len(m.all)-1].Number - random.Intn(8)
	}
	for _, p := range slices.Backward(m.all) {
		n := p.Number
		switch k := len(list) - 1; {
		case n < low || n > upto || random.Intn(10) >= share:
		case k >= 0 && list[k].First == n+1:
			list[k].First = n
		case len(list) < 256:
			list = append(list, api.Span{First: n, Last: n})
		}
	}
	if len(list) > 0 && random.Intn(20) == 0 { // a number more, which may not have been sent
		list[random.Intn(len(list))].First--
	}
	return list
}

// Rows of calls by chance, held against the chapter's words, at both edges and between them.
func TestP15_5Random(t *testing.T) {
	random := rand.New(rand.NewSource(15))
	for _, base := range []int{0, 12345, top - 300} {
		for range 120 {
			p := newPair(t)
			m := p.models[0]
			next, now, gaps := base, random.Intn(100), random.Intn(3)
			for range 80 {
				now += random.Intn(2) * random.Intn(12)
				late := random.Intn(60)
				switch random.Intn(14) {
				case 0:
					p.passed(now, late)
				case 1:
					p.passed(now-random.Intn(10), late)
				case 2:
					if random.Intn(6) == 0 {
						p.clear()
					}
				case 3, 4, 5:
					low := base
					if random.Intn(2) == 0 {
						low = max(base, next-10)
					}
					p.acked(someSpans(random, m, low), now-random.Intn(20)/19, late)
				case 6:
					p.sent(ledger.Packet{Number: next - random.Intn(3), At: now - random.Intn(3), Size: random.Intn(3), Eliciting: true})
				default:
					for range 1 + random.Intn(6) {
						next += 1 + random.Intn(1+gaps)*random.Intn(2)
						p.sent(ledger.Packet{Number: next, At: now, Size: 1 + random.Intn(65535), Eliciting: random.Intn(3) > 0})
						now += random.Intn(3)
					}
				}
			}
		}
	}
}

// Rows of calls with any numbers at all.
func TestP15_5RandomWild(t *testing.T) {
	random := rand.New(rand.NewSource(155))
	edges := []int{math.MinInt, -end, -1, 0, 1, 2, 3, 4, 65535, 65536, end - 1, end, end + 1, top - 3, top - 1, top, top + 1, math.MaxInt}
	wild := func() int {
		if random.Intn(2) == 0 {
			return edges[random.Intn(len(edges))]
		}
		return random.Intn(1 << random.Intn(63))
	}
	for range 600 {
		p := newPair(t)
		for i := range 30 {
			switch random.Intn(8) {
			case 0:
				p.passed(wild(), wild())
			case 1:
				list := make([]api.Span, random.Intn(4))
				for j := range list {
					list[j].First = wild()
					list[j].Last = list[j].First
					if random.Intn(4) == 0 {
						list[j].Last = wild()
					}
				}
				p.acked(list, wild(), wild())
			case 2:
				p.sent(ledger.Packet{Number: wild(), At: wild(), Size: wild(), Eliciting: true})
			case 3:
				p.acked(someSpans(random, p.models[0], 0), 1000*i, wild())
			default:
				p.sent(ledger.Packet{Number: wild(), At: 1000 * i, Size: 1 + random.Intn(65535), Eliciting: random.Intn(2) == 0})
			}
		}
	}
}

// Every packet is at most once Acked, Lost or cleared, and what was sent is one of these or on its way.
func TestP15_5Once(t *testing.T) {
	random := rand.New(rand.NewSource(551))
	for range 60 {
		l := begin(t)
		size, sizes := 0, map[int]int{} // of those that are on their way
		over := func(list []ledger.Packet) {
			t.Helper()
			if !slices.IsSortedFunc(list, func(a, b ledger.Packet) int { return a.Number - b.Number }) {
				t.Fatalf("%v do not rise", list)
			}
			for _, p := range list {
				if sizes[p.Number] != p.Size {
					t.Fatalf("%v was not on its way", p)
				}
				delete(sizes, p.Number)
				size -= p.Size
			}
		}
		next := 0
		for now := range 600 {
			if random.Intn(4) > 0 {
				p := ledger.Packet{Number: next, At: now, Size: 1 + random.Intn(2000), Eliciting: true}
				sends(t, l, p)
				sizes[next] = p.Size
				size += p.Size
				next++
				continue
			}
			first := random.Intn(next + 1)
			r, _ := l.Acked(spans(first, first+random.Intn(9)), now, 20)
			if random.Intn(3) == 0 {
				r, _ = passedInto(r, l, now)
			}
			over(r.Acked)
			over(r.Lost)
			if random.Intn(40) == 0 {
				over(l.Clear())
			}
			if bytes, eliciting, _ := l.Flight(); bytes != size || eliciting != len(sizes) {
				t.Fatalf("%d bytes of %d packets are on their way, not %d of %d", bytes, eliciting, size, len(sizes))
			}
		}
		over(l.Clear())
		if len(sizes) != 0 {
			t.Fatalf("%v came to nothing", sizes)
		}
	}
}

// passedInto adds what is lost by time to what an acknowledgement came to.
func passedInto(r ledger.Result, l *ledger.Ledger, now int) (ledger.Result, api.Errno) {
	more, e := l.Passed(now, 9)
	r.Lost = append(r.Lost, more.Lost...)
	return r, e
}

// many packets: a call costs no more than what it tells, whatever was sent before.
const many = 300000

func TestP15_5Many(t *testing.T) {
	for _, step := range []int{1, 2, top / many} {
		l := begin(t)
		for i := range many {
			sends(t, l, eliciting(i*step, i))
		}
		if step == 1 {
			for i := range many { // all that came before is told again each time
				r, e := l.Acked(spans(0, i), many, end)
				if e != api.OK || len(r.Acked) != 1 || r.Acked[0] != eliciting(i, i) || len(r.Lost) != 0 || r.Sample != many-i {
					t.Fatal(i, r, int(e))
				}
			}
		} else {
			for i := 9; i < many; i += 10 {
				r, e := l.Acked(spans(i*step, i*step), many, end)
				if e != api.OK || len(r.Acked) != 1 || r.Acked[0] != eliciting(i*step, i) {
					t.Fatal(i, r, int(e))
				}
			}
		}
		for range many {
			l.Due(9)
			l.Flight()
			l.Clear()
		}
		flight(t, l, 0, 0, many-1)
	}
}

// One call that tells very many.
func TestP15_5ManyAtOnce(t *testing.T) {
	l := begin(t)
	for i := range many {
		sends(t, l, eliciting(i, i))
	}
	half := many / 2
	r, e := l.Acked(spans(half, many-1), many, end)
	if e != api.OK || len(r.Acked) != half || len(r.Lost) != half || r.Sample != 1 || r.Spread != half-1 {
		t.Fatal(len(r.Acked), len(r.Lost), r.Sample, r.Spread, int(e))
	}
	for i := range half {
		if r.Lost[i] != eliciting(i, i) || r.Acked[i] != eliciting(half+i, half+i) {
			t.Fatal(i, r.Lost[i], r.Acked[i])
		}
	}
	flight(t, l, 0, 0, many-1)
}
