package rtt_test

import (
	"math"
	"math/rand"
	"testing"
)

// Every row of few samples, with numbers that lie close together.
func TestP14_2Every(t *testing.T) {
	type given struct {
		took, waited int
		known        bool
	}
	var list []given
	for _, took := range []int{0, 8, 17, 40} {
		for _, waited := range []int{0, 9, 32} {
			list = append(list, given{took, waited, false}, given{took, waited, true})
		}
	}
	for _, most := range []int{0, 9, 20} {
		for _, a := range list {
			for _, b := range list {
				for _, c := range list {
					r, m := begin(t, most), newModel(most)
					for _, g := range []given{a, b, c} {
						samples(t, r, g.took, g.waited, g.known)
						m.sample(g.took, g.waited, g.known)
					}
					pair{t, r, m}.looks()
				}
			}
		}
	}
}

// span asks that least is the least sample, and that smooth lies between the least and the greatest a.
func (p pair) span(least int) {
	p.t.Helper()
	_, gotLeast, smooth, _ := p.r.Told()
	if gotLeast != least {
		p.t.Fatalf("the least is %d, not %d", gotLeast, least)
	}
	if smooth < least || whole(smooth).Cmp(p.m.leastOwn) < 0 || whole(smooth).Cmp(p.m.mostOwn) > 0 {
		p.t.Fatalf("smooth is %d, not from %v to %v", smooth, p.m.leastOwn, p.m.mostOwn)
	}
}

// Samples by chance, of which some may not be, about any number and with any wait.
func TestP14_4Random(t *testing.T) {
	random := rand.New(rand.NewSource(14))
	for range 600 {
		most := random.Intn(1 << (1 + random.Intn(50)))
		p := newPair(t, most)
		base, width := random.Intn(1<<(1+random.Intn(49))), 1+random.Intn(1<<(1+random.Intn(48)))
		least := end
		for range 60 {
			took, waited := base+random.Intn(width), random.Intn(1<<(1+random.Intn(50)))
			switch random.Intn(8) {
			case 0:
				took = random.Intn(1 << (1 + random.Intn(50)))
			case 1:
				waited = most + random.Intn(5) - 2
			case 2: // about what is beyond the least
				waited = took - min(least, took) + random.Intn(5) - 2
			case 3:
				waited = random.Int()
			}
			p.sample(took, waited, random.Intn(2) == 0)
			if took <= end && waited >= 0 {
				least = min(least, took)
			}
			if p.m.samples > 0 {
				p.span(least)
			}
		}
	}
}

// Any numbers at all.
func TestP14_4RandomWild(t *testing.T) {
	random := rand.New(rand.NewSource(144))
	edges := []int{math.MinInt, -end, -1, 0, 1, 2, 7, 8, 999, 1000, 1001, end - 1, end, end + 1, math.MaxInt - end, math.MaxInt}
	wild := func() int {
		if random.Intn(2) == 0 {
			return edges[random.Intn(len(edges))]
		}
		return random.Intn(1 << random.Intn(63))
	}
	for range 600 {
		p := newPair(t, min(end, max(0, wild())))
		least := end
		for range 40 {
			took, waited := wild(), wild()
			p.sample(took, waited, random.Intn(2) == 0)
			if 0 <= took && took <= end && waited >= 0 {
				least = min(least, took)
			}
			if p.m.samples > 0 {
				p.span(least)
			}
		}
	}
}

// The least is of the samples themselves, not of what is left of them: waits do not count for it.
func TestP14_4LeastOfSamples(t *testing.T) {
	r := begin(t, end)
	samples(t, r, 5000, 5000, true)
	least := func(want int) {
		t.Helper()
		if _, got, _, _ := r.Told(); got != want {
			t.Fatalf("the least is %d, not %d", got, want)
		}
	}
	least(5000)
	samples(t, r, 9000, 4000, true)
	least(5000)
	samples(t, r, 5001, 1, false)
	least(5000)
	samples(t, r, 4999, 1000, true)
	least(4999)
	samples(t, r, 0, 0, true)
	least(0)
	samples(t, r, 7, 7, true)
	least(0)
}

// Like samples from the first one on: smooth stays, and vary goes down each time, to nothing.
func TestP14_4AlikeFromTheFirst(t *testing.T) {
	for _, took := range []int{1, 2, 3, 5, 100, 1000, 100000, end - 1, end} {
		p := newPair(t, 25)
		p.sample(took, 0, true)
		before := took / 2
		for before > 0 {
			p.sample(took, 0, true)
			_, _, smooth, vary := p.r.Told()
			if smooth != took || vary >= before {
				t.Fatalf("%d: smooth %d, vary %d behind %d", took, smooth, vary, before)
			}
			before = vary
		}
		p.sample(took, 0, true)
		told(t, p.r, took, took, took, 0)
	}
}

// Like samples behind any others: as long as vary is above how far smooth is from them it goes down, and comes to what is lost by rounding.
func TestP14_4AlikeBehindOthers(t *testing.T) {
	random := rand.New(rand.NewSource(1414))
	for range 300 {
		r := begin(t, random.Intn(end))
		for range 1 + random.Intn(20) {
			samples(t, r, random.Intn(1<<(1+random.Intn(50))), random.Intn(end), random.Intn(2) == 0)
		}
		took := random.Intn(1 << (1 + random.Intn(50)))
		for range 500 {
			_, _, smooth, before := r.Told()
			samples(t, r, took, 0, true)
			far := max(smooth-took, took-smooth)
			if _, _, _, vary := r.Told(); before > far && vary >= before {
				t.Fatalf("vary is %d behind %d, with smooth %d and samples of %d", vary, before, smooth, took)
			}
		}
		_, _, smooth, vary := r.Told()
		if vary > 7 || smooth > took || smooth < took-7 {
			t.Fatalf("smooth %d, vary %d behind many samples of %d", smooth, vary, took)
		}
	}
}
