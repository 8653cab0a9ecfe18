package seen_test

import (
	"math"
	"math/rand"
	"slices"
	"testing"

	"caravel/api"
	"caravel/seen"
)

// Every row of few calls, with numbers and times that lie close together.
func TestP8_4Every(t *testing.T) {
	var calls []func(pair)
	for n := range 3 {
		for _, eliciting := range []bool{false, true} {
			for _, now := range []int{1, 2} {
				calls = append(calls, func(p pair) { p.take(n, eliciting, now) })
			}
		}
	}
	calls = append(calls,
		func(p pair) { p.sent(2) },
		func(p pair) { p.forget(0) },
		func(p pair) { p.forget(1) },
	)
	const length = 4
	rows := 1
	for range length {
		rows *= len(calls)
	}
	for row := range rows {
		p := newPair(t, 1)
		for range length {
			calls[row%len(calls)](p)
			row /= len(calls)
		}
	}
}

// Rows of calls by chance, against numbers one by one, at both edges and between them.
func TestP8_4Random(t *testing.T) {
	random := rand.New(rand.NewSource(8))
	for _, base := range []int{0, 12345, top - 40} {
		for range 150 {
			p := newPair(t, random.Intn(30))
			if base > 0 {
				p.forget(base - 1 - random.Intn(2))
			}
			now := random.Intn(100)
			for range 60 {
				now += random.Intn(2) * random.Intn(20)
				switch random.Intn(12) {
				case 0:
					p.sent(now + random.Intn(30) - 15)
				case 1:
					p.forget(base + random.Intn(20) - 10)
				case 2:
					p.take(base+random.Intn(41), true, now-random.Intn(10))
				case 3:
					p.take(p.m.greatest()+1, random.Intn(2) == 0, now)
				default:
					p.take(base+random.Intn(41), random.Intn(2) == 0, now)
				}
			}
		}
	}
}

// Rows of calls with any numbers at all.
func TestP8_4RandomWild(t *testing.T) {
	random := rand.New(rand.NewSource(84))
	edges := []int{math.MinInt, -2, -1, 0, 1, 2, late - 1, late, late + 1, top - 2, top - 1, top, top + 1, math.MaxInt}
	wild := func() int {
		if random.Intn(2) == 0 {
			return edges[random.Intn(len(edges))]
		}
		return random.Intn(1 << random.Intn(62))
	}
	for range 400 {
		p := newPair(t, min(late, random.Intn(1<<random.Intn(51))))
		for range 30 {
			switch random.Intn(8) {
			case 0:
				p.sent(wild())
			case 1:
				if upto := wild(); upto < top-3 || random.Intn(4) == 0 {
					p.forget(upto)
				}
			case 2:
				p.take(wild(), true, wild())
			default:
				p.take(wild(), random.Intn(2) == 0, random.Intn(1<<random.Intn(12)))
			}
		}
	}
}

// No number is fresh twice, in whatever order, however often, and whatever was forgotten or sent between.
func TestP8_4FreshOnce(t *testing.T) {
	random := rand.New(rand.NewSource(48))
	for range 50 {
		s := begin(t, 25)
		fresh := map[int]int{}
		for i := range 400 {
			n := random.Intn(100)
			if ok, _ := s.Take(n, true, i); ok {
				fresh[n]++
			}
			if random.Intn(10) == 0 {
				s.Sent(i)
			}
			if random.Intn(50) == 0 {
				forgets(t, s, random.Intn(40))
			}
		}
		for n, times := range fresh {
			if times > 1 {
				t.Fatalf("%d was fresh %d times", n, times)
			}
		}
	}
}

// many is more spans than one set of ranges has room for.
const many = 70000

// spread goes through numbers of as many spans, in some order.
func spread(order string, step int) []int {
	list := make([]int, many)
	for i := range list {
		list[i] = i * step
	}
	switch order {
	case "falling":
		slices.Reverse(list)
	case "any":
		random := rand.New(rand.NewSource(884))
		random.Shuffle(many, func(i, j int) { list[i], list[j] = list[j], list[i] })
	}
	return list
}

// However many spans there are, all that came is acknowledged, and nothing is fresh again.
func TestP8_4Many(t *testing.T) {
	for _, order := range []string{"rising", "falling", "any"} {
		for _, step := range []int{2, 3, 5000, top / many} {
			s := begin(t, 25)
			for _, n := range spread(order, step) {
				takes(t, s, n, false, 1)
			}
			for _, n := range spread(order, step) {
				stale(t, s, n, false, 2)
			}
			everyNth(t, s, 0, many, step)
			middle := many / 2
			forgets(t, s, middle*step-1)
			everyNth(t, s, middle, many, step)
			forgets(t, s, middle*step)
			everyNth(t, s, middle+1, many, step)
			stale(t, s, middle*step, false, 2)
			takes(t, s, middle*step+1, false, 2)
			greatest(t, s, (many-1)*step)
		}
	}
}

// everyNth asks that the numbers from one up to another, times step, are all that is acknowledged.
func everyNth(t *testing.T, s *seen.Seen, from, to, step int) {
	t.Helper()
	for _, most := range []int{math.MaxInt, to - from + 1, to - from, to - from - 1, 5000, api.MaxSpans, 1} {
		list := s.Acks(most)
		if len(list) != min(most, to-from) {
			t.Fatalf("Acks(%d) has %d spans, not %d", most, len(list), min(most, to-from))
		}
		for i, p := range list {
			if n := (to - 1 - i) * step; p != (api.Span{First: n, Last: n}) {
				t.Fatalf("Acks(%d)[%d] = %v, not %d", most, i, p, n)
			}
		}
	}
}

// What lacks between many spans comes, in whatever order: they become one.
func TestP8_4ManyBecomeOne(t *testing.T) {
	for _, order := range []string{"rising", "falling", "any"} {
		s := begin(t, 25)
		for _, n := range spread("any", 2) {
			takes(t, s, n, false, 1)
		}
		last := 2*many - 1
		for i, n := range spread(order, 2) {
			takes(t, s, n+1, false, 2)
			if i%10000 == 0 {
				if got := len(s.Acks(math.MaxInt)); got != many-i && got != many-i-1 {
					t.Fatalf("%s: %d spans behind %d", order, got, i)
				}
			}
		}
		for _, most := range []int{1, 2, math.MaxInt} {
			acks(t, s, most, 0, last)
		}
		acks(t, s, 0)
		for n := range last + 1 {
			stale(t, s, n, false, 3)
		}
		takes(t, s, last+2, false, 4)
		acks(t, s, 9, last+2, last+2, 0, last)
		forgets(t, s, last-1)
		acks(t, s, 9, last+2, last+2, last, last)
	}
}

// Spans of several numbers, by chance, more than there is room for in one set, against numbers one by one.
func TestP8_4ManyRandom(t *testing.T) {
	random := rand.New(rand.NewSource(848))
	s := begin(t, 25)
	const width = 300000
	var had [width]bool
	forgotten := -1
	for i := range 400000 {
		n := random.Intn(width)
		fresh, e := s.Take(n, false, i)
		if e != api.OK || fresh != (!had[n] && n > forgotten) {
			t.Fatalf("Take(%d) = %v, %d", n, fresh, int(e))
		}
		had[n] = had[n] || fresh
		if i%40000 == 30000 {
			forgotten = max(forgotten, random.Intn(width/4))
			forgets(t, s, forgotten)
		}
		if i%20000 != 0 {
			continue
		}
		var want []api.Span
		for n := width - 1; n > forgotten; n-- {
			switch k := len(want) - 1; {
			case !had[n]:
			case k >= 0 && want[k].First == n+1:
				want[k].First = n
			default:
				want = append(want, api.Span{First: n, Last: n})
			}
		}
		if !slices.Equal(s.Acks(math.MaxInt), want) {
			t.Fatalf("other spans behind %d packets", i)
		}
		if got := s.Acks(3000); !slices.Equal(got, want[:min(3000, len(want))]) {
			t.Fatalf("other 3000 spans behind %d packets", i)
		}
	}
}
