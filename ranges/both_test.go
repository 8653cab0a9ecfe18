package ranges_test

import (
	"math/rand"
	"slices"
	"testing"

	"caravel/api"
	"caravel/ranges"
)

// few is how many numbers the sets have here that are tried one number at a time.
const few = 7

// member is a set of few numbers from base on, as bits.
func member(bits, i int) bool { return bits>>i&1 == 1 }

// bitSpans tells the fewest spans of such a set.
func bitSpans(base, bits, width int) []api.Span {
	var list []api.Span
	for i := range width {
		switch {
		case !member(bits, i):
		case i > 0 && member(bits, i-1):
			list[len(list)-1].Last++
		default:
			list = append(list, api.Span{First: base + i, Last: base + i})
		}
	}
	return list
}

// ofBits makes such a set, one number at a time.
func ofBits(t *testing.T, base, bits, width int) *ranges.Set {
	t.Helper()
	s := ranges.New()
	for i := range width {
		if member(bits, i) {
			add(t, s, base+i, base+i)
		}
	}
	return s
}

// mask tells the bits from i to j.
func mask(i, j int) int { return 1<<(j+1) - 1<<i }

// Every set of few numbers, at both edges and between them, with every span added and removed.
func TestP5_3Every(t *testing.T) {
	for _, base := range []int{0, 1, 1000, top - few, top - few + 1} {
		for bits := range 1 << few {
			holds(t, ofBits(t, base, bits, few), bitSpans(base, bits, few)...)
			for i := range few {
				for j := i; j < few; j++ {
					s := ofBits(t, base, bits, few)
					c := s.Clone()
					add(t, s, base+i, base+j)
					holds(t, s, bitSpans(base, bits|mask(i, j), few)...)
					remove(t, c, base+i, base+j)
					holds(t, c, bitSpans(base, bits&^mask(i, j), few)...)
				}
			}
		}
	}
}

// Spans in any order, added and removed, against numbers one by one.
func TestP5_3Random(t *testing.T) {
	const width = 60
	random := rand.New(rand.NewSource(5))
	for _, base := range []int{0, 12345, top - width + 1} {
		for range 200 {
			s, bits := ranges.New(), 0
			for range 60 {
				i := random.Intn(width)
				j := min(width-1, i+random.Intn(1+random.Intn(20)))
				if random.Intn(2) == 0 {
					add(t, s, base+i, base+j)
					bits |= mask(i, j)
				} else {
					remove(t, s, base+i, base+j)
					bits &^= mask(i, j)
				}
				holds(t, s, bitSpans(base, bits, width)...)
			}
		}
	}
}

// orders goes through all orders of a list.
func orders(list []api.Span, tell func([]api.Span)) {
	var from func(n int)
	from = func(n int) {
		if n == len(list) {
			tell(list)
			return
		}
		for i := n; i < len(list); i++ {
			list[n], list[i] = list[i], list[n]
			from(n + 1)
			list[n], list[i] = list[i], list[n]
		}
	}
	from(0)
}

func TestP5_3OrderOfAdding(t *testing.T) {
	for _, c := range []struct{ added, want []int }{
		{[]int{1, 2, 5, 7, 3, 3}, []int{1, 3, 5, 7}},
		{[]int{0, 0, top, top, 2, 2, top - 1, top - 1, 1, 1}, []int{0, 2, top - 1, top}},
		{[]int{1, 1, 3, 3, 5, 5, 2, 4, 7, 9, 6, 6}, []int{1, 9}},
		{[]int{1, 9, 2, 3, 5, 5, 9, 12, 14, 15, 14, 14}, []int{1, 12, 14, 15}},
		{[]int{4, 4, 6, 6, 8, 8, 10, 10, 12, 12, 6, 10}, []int{4, 4, 6, 10, 12, 12}},
	} {
		orders(spans(c.added...), func(list []api.Span) {
			s := ranges.New()
			for _, p := range list {
				add(t, s, p.First, p.Last)
			}
			holds(t, s, spans(c.want...)...)
		})
	}
}

// Many spans from the whole range of numbers: what is added is in it, what is removed not, in any order.
func TestP5_3Many(t *testing.T) {
	random := rand.New(rand.NewSource(53))
	for range 20 {
		var list []api.Span
		for range 300 {
			first := random.Intn(top)
			list = append(list, api.Span{First: first, Last: first + random.Intn(1+min(top-first, 1<<random.Intn(62)))})
		}
		s, other := ranges.New(), ranges.New()
		for _, p := range list {
			add(t, s, p.First, p.Last)
		}
		for _, i := range random.Perm(len(list)) {
			add(t, other, list[i].First, list[i].Last)
		}
		if !slices.Equal(all(s), all(other)) {
			t.Fatal("the order of adding matters")
		}
		for _, p := range list {
			middle := p.First + (p.Last-p.First)/2
			if !s.Has(p.First) || !s.Has(p.Last) || !s.Has(middle) {
				t.Fatalf("%v was added", p)
			}
		}
		for _, p := range list[:200] {
			remove(t, s, p.First, p.Last)
		}
		for _, p := range list[:200] {
			middle := p.First + (p.Last-p.First)/2
			if s.Has(p.First) || s.Has(p.Last) || s.Has(middle) {
				t.Fatalf("%v was removed", p)
			}
		}
		apart(t, s)
	}
}

// apart asks that spans rise, with at least one number between two of them.
func apart(t *testing.T, s *ranges.Set) {
	t.Helper()
	end := -2
	for p := range s.All() {
		if p.First > p.Last || p.First < end+2 {
			t.Fatalf("%v behind %d", p, end)
		}
		end = p.Last
	}
}
