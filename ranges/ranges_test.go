package ranges_test

import (
	"math"
	"slices"
	"testing"

	"caravel/api"
	"caravel/ranges"
)

const (
	mostSpans = 65536
	top       = api.MaxVar
)

// spans tells spans, of their first and last numbers in turn.
func spans(ends ...int) []api.Span {
	var list []api.Span
	for i := 0; i < len(ends); i += 2 {
		list = append(list, api.Span{First: ends[i], Last: ends[i+1]})
	}
	return list
}

// set tells one with these numbers, of spans' first and last ones in turn.
func set(t *testing.T, ends ...int) *ranges.Set {
	t.Helper()
	s := ranges.New()
	for _, p := range spans(ends...) {
		add(t, s, p.First, p.Last)
	}
	return s
}

func add(t *testing.T, s *ranges.Set, first, last int) {
	t.Helper()
	if e := s.Add(first, last); e != api.OK {
		t.Fatalf("Add(%d, %d) = %d", first, last, int(e))
	}
}

func remove(t *testing.T, s *ranges.Set, first, last int) {
	t.Helper()
	if e := s.Remove(first, last); e != api.OK {
		t.Fatalf("Remove(%d, %d) = %d", first, last, int(e))
	}
}

// full tells a set of n spans of three numbers, from 10, 20, 30 .. on.
func full(t *testing.T, n int) *ranges.Set {
	t.Helper()
	s := ranges.New()
	for i := range n {
		add(t, s, 10*i+10, 10*i+12)
	}
	if s.Spans() != n {
		t.Fatalf("%d spans, not %d", s.Spans(), n)
	}
	return s
}

func all(s *ranges.Set) []api.Span { return slices.Collect(s.All()) }

// holds asks that a set has just these spans, by all looks.
func holds(t *testing.T, s *ranges.Set, want ...api.Span) {
	t.Helper()
	if got := all(s); !slices.Equal(got, want) {
		t.Fatalf("spans %v, not %v", got, want)
	}
	if s.Spans() != len(want) {
		t.Fatalf("Spans = %d of %v", s.Spans(), want)
	}
	least, greatest := -1, -1
	if len(want) > 0 {
		least, greatest = want[0].First, want[len(want)-1].Last
	}
	if a, b := s.Ends(); a != least || b != greatest {
		t.Fatalf("Ends = %d, %d of %v", a, b, want)
	}
	for _, p := range want {
		beside(t, s, want, p.First)
		beside(t, s, want, p.Last)
	}
	beside(t, s, want, 0)
	beside(t, s, want, top)
}

// beside asks Has and Gap of a number and of those beside it.
func beside(t *testing.T, s *ranges.Set, want []api.Span, mid int) {
	t.Helper()
	for n := mid - 2; n <= mid+2; n++ {
		in := slices.ContainsFunc(want, func(p api.Span) bool { return p.First <= n && n <= p.Last })
		if s.Has(n) != in {
			t.Fatalf("Has(%d) = %v of %v", n, s.Has(n), want)
		}
		if got := s.Gap(n); got != gap(want, n) {
			t.Fatalf("Gap(%d) = %d of %v", n, got, want)
		}
	}
}

// gap tells what Gap has to tell of a set of these spans.
func gap(want []api.Span, from int) int {
	n := max(from, 0)
	for _, p := range want {
		if p.First <= n && n <= p.Last {
			n = p.Last + 1
		}
	}
	if n > top {
		return -1
	}
	return n
}

// change is a set, what is added or removed, and the spans behind it.
type change struct {
	name        string
	ahead       []int
	first, last int
	behind      []int
}

func TestP5_1Add(t *testing.T) {
	for _, c := range []change{
		{"to none", nil, 4, 6, []int{4, 6}},
		{"one number to none", nil, 4, 4, []int{4, 4}},
		{"all numbers", nil, 0, top, []int{0, top}},
		{"the least", nil, 0, 0, []int{0, 0}},
		{"the greatest", nil, top, top, []int{top, top}},
		{"apart, ahead", []int{5, 7}, 1, 3, []int{1, 3, 5, 7}},
		{"apart, behind", []int{5, 7}, 9, 9, []int{5, 7, 9, 9}},
		{"apart, between", []int{1, 2, 9, 9}, 4, 7, []int{1, 2, 4, 7, 9, 9}},
		{"touches what is behind it", []int{5, 7}, 1, 4, []int{1, 7}},
		{"touches what is ahead of it", []int{5, 7}, 8, 9, []int{5, 9}},
		{"joins two", []int{1, 3, 5, 7}, 4, 4, []int{1, 7}},
		{"joins two of four", []int{1, 1, 3, 3, 5, 5, 7, 7}, 4, 4, []int{1, 1, 3, 5, 7, 7}},
		{"overlaps what is behind it", []int{5, 7}, 2, 5, []int{2, 7}},
		{"overlaps what is ahead of it", []int{5, 7}, 7, 9, []int{5, 9}},
		{"overlaps two", []int{1, 4, 6, 9}, 3, 7, []int{1, 9}},
		{"within", []int{1, 9}, 3, 4, []int{1, 9}},
		{"within, at its beginning", []int{1, 9}, 1, 4, []int{1, 9}},
		{"within, at its end", []int{1, 9}, 7, 9, []int{1, 9}},
		{"the same", []int{1, 2, 4, 6, 8, 9}, 4, 6, []int{1, 2, 4, 6, 8, 9}},
		{"covers one", []int{4, 5}, 1, 9, []int{1, 9}},
		{"covers several", []int{2, 2, 4, 5, 8, 8}, 1, 9, []int{1, 9}},
		{"covers several, up to their ends", []int{2, 2, 4, 5, 8, 8, 10, 11}, 2, 8, []int{2, 8, 10, 11}},
		{"covers several, and touches two", []int{0, 1, 3, 3, 5, 5, 8, 9, 11, 12}, 2, 7, []int{0, 9, 11, 12}},
		{"at the edges", []int{0, 0, top, top}, 1, top - 1, []int{0, top}},
		{"beside the edges", []int{0, 0, top, top}, 2, top - 2, []int{0, 0, 2, top - 2, top, top}},
		{"0 to 1", []int{1, 1}, 0, 0, []int{0, 1}},
		{"the greatest to the one below it", []int{top - 1, top - 1}, top, top, []int{top - 1, top}},
	} {
		t.Run(c.name, func(t *testing.T) {
			s := set(t, c.ahead...)
			add(t, s, c.first, c.last)
			holds(t, s, spans(c.behind...)...)
			add(t, s, c.first, c.last) // once more: it is in it
			holds(t, s, spans(c.behind...)...)
		})
	}
}

func TestP5_1Remove(t *testing.T) {
	for _, c := range []change{
		{"of none", nil, 4, 6, nil},
		{"all of none", nil, 0, top, nil},
		{"all", []int{1, 2, 4, 4, 9, 9}, 0, top, nil},
		{"all of all", []int{0, top}, 0, top, nil},
		{"the least", []int{0, top}, 0, 0, []int{1, top}},
		{"the greatest", []int{0, top}, top, top, []int{0, top - 1}},
		{"the least, alone", []int{0, 0, 2, 2}, 0, 0, []int{2, 2}},
		{"the greatest, alone", []int{2, 2, top, top}, top, top, []int{2, 2}},
		{"what is not in it", []int{1, 2, 6, 7}, 3, 5, []int{1, 2, 6, 7}},
		{"what is ahead of it", []int{5, 7}, 0, 4, []int{5, 7}},
		{"what is behind it", []int{5, 7}, 8, top, []int{5, 7}},
		{"a span", []int{1, 2, 4, 6, 8, 9}, 4, 6, []int{1, 2, 8, 9}},
		{"the only span", []int{4, 6}, 4, 6, nil},
		{"a beginning", []int{1, 2, 4, 6, 8, 9}, 4, 5, []int{1, 2, 6, 6, 8, 9}},
		{"an end", []int{1, 2, 4, 6, 8, 9}, 5, 6, []int{1, 2, 4, 4, 8, 9}},
		{"from within one", []int{1, 9, 11, 12}, 3, 4, []int{1, 2, 5, 9, 11, 12}},
		{"all but its ends", []int{1, 9}, 2, 8, []int{1, 1, 9, 9}},
		{"overlaps the beginning", []int{1, 2, 4, 6}, 3, 4, []int{1, 2, 5, 6}},
		{"overlaps the end", []int{1, 3, 5, 6}, 3, 4, []int{1, 2, 5, 6}},
		{"overlaps two", []int{1, 4, 6, 9}, 3, 7, []int{1, 2, 8, 9}},
		{"covers several", []int{0, 0, 2, 2, 4, 5, 8, 8, 10, 11}, 1, 9, []int{0, 0, 10, 11}},
		{"covers several, up to their ends", []int{0, 0, 2, 2, 4, 5, 8, 8, 10, 11}, 2, 8, []int{0, 0, 10, 11}},
		{"covers several, with parts of two", []int{0, 3, 5, 5, 7, 7, 9, 12}, 2, 10, []int{0, 1, 11, 12}},
		{"all but the edges", []int{0, top}, 1, top - 1, []int{0, 0, top, top}},
	} {
		t.Run(c.name, func(t *testing.T) {
			s := set(t, c.ahead...)
			remove(t, s, c.first, c.last)
			holds(t, s, spans(c.behind...)...)
			remove(t, s, c.first, c.last) // once more: it is not in it
			holds(t, s, spans(c.behind...)...)
		})
	}
}

// wrongs are first and last numbers that may not be.
func wrongs() [][2]int {
	list := [][2]int{{3, 2}, {1, 0}, {top, top - 1}, {top, 0}, {math.MaxInt, math.MinInt}, {0, math.MinInt}, {math.MaxInt, 0}}
	for _, low := range []int{-1, -2, math.MinInt} {
		for _, high := range []int{-1, 0, 1, 5, top, top + 1, math.MaxInt} {
			list = append(list, [2]int{low, high}, [2]int{high, low})
		}
	}
	for _, high := range []int{top + 1, top + 2, math.MaxInt} {
		for _, low := range []int{0, 1, 5, top, top + 1} {
			list = append(list, [2]int{low, high}, [2]int{high, low})
		}
	}
	return list
}

func TestP5_1WrongSpans(t *testing.T) {
	for _, ahead := range [][]int{nil, {1, 2, 5, 7}, {0, top}} {
		s := set(t, ahead...)
		for _, w := range wrongs() {
			if e := s.Add(w[0], w[1]); e != api.ErrArg {
				t.Errorf("Add(%d, %d) = %d", w[0], w[1], int(e))
			}
			if e := s.Remove(w[0], w[1]); e != api.ErrArg {
				t.Errorf("Remove(%d, %d) = %d", w[0], w[1], int(e))
			}
			holds(t, s, spans(ahead...)...)
		}
	}
}

// ErrNil comes ahead of ErrArg.
func TestP5_1NoSet(t *testing.T) {
	var none *ranges.Set
	for _, s := range []*ranges.Set{none, {}} {
		for _, w := range append(wrongs(), [2]int{0, 0}, [2]int{1, 3}, [2]int{0, top}, [2]int{top, top}) {
			if e := s.Add(w[0], w[1]); e != api.ErrNil {
				t.Errorf("Add(%d, %d) = %d", w[0], w[1], int(e))
			}
			if e := s.Remove(w[0], w[1]); e != api.ErrNil {
				t.Errorf("Remove(%d, %d) = %d", w[0], w[1], int(e))
			}
			noSet(t, s)
		}
	}
}

// noSet asks the looks of a set that is nil or that no call made.
func noSet(t *testing.T, s *ranges.Set) {
	t.Helper()
	for p := range s.All() {
		t.Fatalf("All tells %v", p)
	}
	for _, n := range []int{math.MinInt, -1, 0, 1, top, top + 1, math.MaxInt} {
		if s.Has(n) || s.Gap(n) != 0 {
			t.Fatalf("of %d: Has %v, Gap %d", n, s.Has(n), s.Gap(n))
		}
	}
	if a, b := s.Ends(); s.Spans() != 0 || a != 0 || b != 0 || s.Clone() != nil {
		t.Fatalf("Spans %d, Ends %d, %d, Clone %v", s.Spans(), a, b, s.Clone())
	}
}

func TestP5_2NoSet(t *testing.T) {
	var none *ranges.Set
	noSet(t, none)
	noSet(t, new(ranges.Set))
}
