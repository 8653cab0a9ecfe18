package mtu_test

import (
	"math/rand"
	"testing"

	"caravel/mtu"
)

// bounds keeps, apart from the model, what was said of a search: between which sizes it lies.
type bounds struct {
	t              *testing.T
	m              *mtu.Mtu
	base, ceiling  int
	greatest, lost int // that arrived since the last hole, and how often the probe of now was lost
}

func newBounds(t *testing.T, base, most int) *bounds {
	t.Helper()
	b := &bounds{t, begin(t, base, most), base, most, base, 0}
	b.holds()
	return b
}

// holds asks for what is so of every search.
func (b *bounds) holds() {
	size := b.m.Size()
	probe, ok := b.m.Probe()
	if size != b.greatest || size < b.base || size > b.ceiling || ok && (probe <= size || probe > b.ceiling) {
		b.t.Helper()
		b.t.Fatalf("size %d and probe %d, %v, of %+v", size, probe, ok, *b)
	}
}

// tries says what became of the probe of now; false: there is none.
func (b *bounds) tries(arrived bool) bool {
	probe, ok := b.m.Probe()
	switch {
	case !ok:
		return false
	case arrived:
		arrives(b.t, b.m, probe)
		b.greatest, b.lost = probe, 0
	default:
		loses(b.t, b.m, probe, 1)
		if b.lost++; b.lost == 3 {
			b.ceiling, b.lost = probe-1, 0
		}
	}
	b.holds()
	return true
}

func (b *bounds) hole() {
	b.m.Hole()
	b.ceiling, b.greatest, b.lost = max(b.greatest-1, b.base), b.base, 0
	b.holds()
}

// through searches a path that lets through just what is at most some size; spare tells how often a probe that would have arrived is lost ahead of that.
func (b *bounds) through(path int, spare func() int) {
	b.t.Helper()
	for tries := 0; ; tries++ {
		probe, ok := b.m.Probe()
		if !ok {
			return
		}
		if tries > 20 {
			b.t.Fatalf("with a path of %d the search does not end: %+v", path, *b)
		}
		if probe <= path {
			for range spare() {
				b.tries(false)
			}
			b.tries(true)
			continue
		}
		for range 3 {
			b.tries(false)
		}
	}
}

// ends asks that the search has ended below what is let through, by at most so much.
func (b *bounds) ends(path int) {
	if size := b.m.Size(); size > path || path-size > 20 {
		b.t.Helper()
		b.t.Fatalf("with a path of %d the search ends at %d: %+v", path, size, *b)
	}
}

func never() int { return 0 }

// A path that lets through just what is at most some size: each one, from base to the most, and more.
func TestP19_4Path(t *testing.T) {
	for _, c := range [][2]int{{1200, 1200}, {1200, 1201}, {1200, 1219}, {1200, 1220}, {1200, 1221}, {1200, 1240}, {1200, 1241}, {1200, 1500}, {1201, 1500}, {1200, 9000}, {1280, 65527}, {1200, 65527}, {65000, 65527}, {65527, 65527}} {
		base, most := c[0], c[1]
		for path := base; path <= most; path++ {
			b := newBounds(t, base, most)
			b.through(path, never)
			b.ends(path)
		}
		for _, path := range []int{most + 1, 65528, huge} { // no more than the most is tried
			b := newBounds(t, base, most)
			b.through(path, never)
			b.ends(most)
		}
		for _, path := range []int{base - 1, 20, 0} { // nothing is let through: it stays at base
			b := newBounds(t, base, most)
			b.through(path, never)
			b.ends(base)
			if size := b.m.Size(); size != base {
				t.Errorf("with a path of %d below %d the size is %d", path, base, size)
			}
		}
	}
}

// A loss now and then, or two, of what is let through does not change where the search ends.
func TestP19_4PathWithLosses(t *testing.T) {
	random := rand.New(rand.NewSource(19))
	spares := []func() int{
		func() int { return 1 },
		func() int { return 2 },
		func() int { return random.Intn(3) },
		func() int { return max(random.Intn(12)-9, 0) },
	}
	for _, c := range [][2]int{{1200, 1220}, {1200, 1241}, {1200, 1500}, {1333, 9000}, {1200, 65527}} {
		step := 1 + (c[1]-c[0])/4000
		for path := c[0]; path <= c[1]; path += step {
			want := newBounds(t, c[0], c[1])
			want.through(path, never)
			for _, spare := range spares {
				b := newBounds(t, c[0], c[1])
				b.through(path, spare)
				b.ends(path)
				if *b.m != *want.m {
					t.Fatalf("with a path of %d and losses it ends at %+v, not at %+v", path, *b.m, *want.m)
				}
			}
		}
	}
}

// A path that lets through less from some time on: behind a hole the search ends as close to that.
func TestP19_4PathSinks(t *testing.T) {
	for _, c := range [][2]int{{1200, 1500}, {1200, 9000}, {1300, 65527}} {
		step := 1 + (c[1]-c[0])/150
		for path := c[0]; path <= c[1]; path += step {
			for less := c[0]; less <= path; less += step {
				b := newBounds(t, c[0], c[1])
				b.through(path, never)
				if b.m.Size() <= less {
					continue
				}
				b.hole()
				b.through(less, never)
				b.ends(less)
			}
		}
	}
}

// Every way to the end of searches with little room, with a hole anywhere in it.
func TestP19_4Every(t *testing.T) {
	for _, most := range []int{1219, 1220, 1239, 1240, 1241, 1279, 1280, 1300} {
		newPair(t, 1200, most).every(11, 2)
	}
	newPair(t, 1200, 65527).every(9, 1)
	newPair(t, 65507, 65527).every(9, 1)
	newPair(t, 65506, 65527).every(9, 1)
}

// every goes on in each way, with so many calls, and of these so many holes at most.
func (p pair) every(calls, holes int) {
	p.t.Helper()
	if calls == 0 || !p.m.goesOn() {
		p.looks()
		return
	}
	for _, letter := range "al" {
		fork := p.fork()
		fork.step(letter)
		fork.every(calls-1, holes)
	}
	if holes > 0 {
		fork := p.fork()
		fork.step('h')
		fork.every(calls-1, holes-1)
	}
}

// reached counts which edges calls by chance came to: without that they would ask for little.
type reached map[string]int

// note counts what is ahead of a call about a probe of a size, or of a hole.
func (r reached) note(p pair, call, size int) {
	count := []string{"none lost", "one lost", "two lost"}[p.m.lost]
	probe, ok := p.m.probe()
	switch {
	case call == holes && p.m.size == p.m.base:
		r["hole at base, "+count]++
	case call == holes:
		r["hole above base, "+count]++
	case !ok && size == probe:
		r["ended, none"]++
	case !ok:
		r["ended"]++
	case size == probe-1 || size == probe+1:
		r["next to, "+count]++
	case size != probe:
		r["refused, "+count]++
	case call == acks:
		r["arrives, "+count]++
	default:
		r["is lost, "+count]++
	}
	if above := p.m.ceiling - p.m.size; above > 17 && above < 23 {
		r["room "+[]string{"18", "19", "20", "21", "22"}[above-18]]++
	}
}

func (r reached) all(t *testing.T) {
	t.Helper()
	edges := []string{"ended", "ended, none", "room 18", "room 19", "room 20", "room 21", "room 22"}
	for _, count := range []string{"none lost", "one lost", "two lost"} {
		for _, edge := range []string{"hole at base, ", "hole above base, ", "next to, ", "refused, ", "arrives, ", "is lost, "} {
			edges = append(edges, edge+count)
		}
	}
	for _, edge := range edges {
		if r[edge] < 50 {
			t.Errorf("%q was come to %d times", edge, r[edge])
		}
	}
}

const (
	acks = iota
	losses
	holes
)

// sizes tells a size by chance: mostly the probe's, now and then another one.
func sizes(random *rand.Rand, p pair) int {
	switch random.Intn(12) {
	case 0:
		return p.now() - 1 + 2*random.Intn(2)
	case 1:
		return []int{p.m.base, p.m.size, p.m.ceiling, p.m.ceiling + 1}[random.Intn(4)]
	case 2:
		return odd()[random.Intn(len(odd()))]
	case 3:
		return p.m.base + random.Intn(p.m.ceiling-p.m.base+2)
	}
	return p.now()
}

// Searches by chance, each held against the chapter's words.
func TestP19_4Random(t *testing.T) {
	random := rand.New(rand.NewSource(1919))
	r := reached{}
	for range 6000 {
		base := 1200 + random.Intn(1<<random.Intn(17))%64328
		most := base + random.Intn(min(1<<random.Intn(17), 65528-base))
		p := newPair(t, base, most)
		kind := random.Intn(3) // of some most arrive, of some most are lost
		for range 40 {
			call, size := acks, sizes(random, p)
			switch {
			case random.Intn(25) == 0:
				call = holes
			case random.Intn(4) < kind+1:
				call = losses
			}
			r.note(p, call, size)
			switch call {
			case acks:
				p.acked(size)
			case losses:
				p.lost(size)
			case holes:
				p.hole()
			}
		}
		p.looks()
	}
	r.all(t)
}
