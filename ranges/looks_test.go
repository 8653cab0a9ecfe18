package ranges_test

import (
	"math"
	"slices"
	"testing"

	"caravel/api"
	"caravel/ranges"
)

func TestP5_2Example(t *testing.T) {
	s := set(t, 1, 2, 5, 7, 3, 3)
	holds(t, s, spans(1, 3, 5, 7)...)
	if n := s.Gap(1); n != 4 {
		t.Errorf("Gap(1) = %d", n)
	}
	remove(t, s, 6, 6)
	holds(t, s, spans(1, 3, 5, 5, 7, 7)...)
	if a, b := s.Ends(); a != 1 || b != 7 {
		t.Errorf("Ends = %d, %d", a, b)
	}
	if e := s.Add(3, 2); e != api.ErrArg {
		t.Errorf("Add(3, 2) = %d", int(e))
	}
}

func TestP5_2None(t *testing.T) {
	s := ranges.New()
	holds(t, s)
	add(t, s, 3, 9)
	remove(t, s, 2, 10)
	holds(t, s)
}

func TestP5_2Has(t *testing.T) {
	s := set(t, 0, 0, 3, 5, top, top)
	for n, want := range map[int]bool{
		math.MinInt: false, -1: false, 0: true, 1: false, 2: false, 3: true, 4: true, 5: true, 6: false,
		top - 1: false, top: true, top + 1: false, math.MaxInt: false,
	} {
		if s.Has(n) != want {
			t.Errorf("Has(%d) = %v", n, s.Has(n))
		}
	}
}

func TestP5_2SpansAndEnds(t *testing.T) {
	for _, c := range []struct {
		ends                   []int
		spans, least, greatest int
	}{
		{nil, 0, -1, -1},
		{[]int{0, 0}, 1, 0, 0},
		{[]int{4, 4}, 1, 4, 4},
		{[]int{4, 9}, 1, 4, 9},
		{[]int{top, top}, 1, top, top},
		{[]int{0, top}, 1, 0, top},
		{[]int{0, 0, top, top}, 2, 0, top},
		{[]int{1, 2, 4, 5, 7, 8, 10, 99}, 4, 1, 99},
	} {
		s := set(t, c.ends...)
		if a, b := s.Ends(); s.Spans() != c.spans || a != c.least || b != c.greatest {
			t.Errorf("%v: Spans %d, Ends %d, %d", c.ends, s.Spans(), a, b)
		}
	}
}

func TestP5_2Gap(t *testing.T) {
	for _, c := range []struct {
		name       string
		ends       []int
		from, want int
	}{
		{"of none, far below 0", nil, math.MinInt, 0},
		{"of none, below 0", nil, -1, 0},
		{"of none, from 0", nil, 0, 0},
		{"of none, from a number", nil, 7, 7},
		{"of none, from the last", nil, top, top},
		{"of none, beyond the last", nil, top + 1, -1},
		{"of none, far beyond the last", nil, math.MaxInt, -1},
		{"below 0, 0 lacks", []int{1, 5}, -1, 0},
		{"below 0, 0 is there", []int{0, 5, 7, 9}, -1, 6},
		{"far below 0, 0 is there", []int{0, 5}, math.MinInt, 6},
		{"from a beginning", []int{0, 1, 3, 5, 7, 9}, 3, 6},
		{"from within", []int{0, 1, 3, 5, 7, 9}, 4, 6},
		{"from an end", []int{0, 1, 3, 5, 7, 9}, 5, 6},
		{"from between two", []int{0, 1, 5, 6}, 3, 3},
		{"from behind one", []int{0, 1, 5, 6}, 2, 2},
		{"from ahead of one", []int{0, 1, 5, 6}, 4, 4},
		{"from behind all", []int{0, 1, 5, 6}, 7, 7},
		{"the last lacks", []int{5, top - 1}, 9, top},
		{"from the last, which lacks", []int{5, top - 1}, top, top},
		{"from the last, which is there", []int{top, top}, top, -1},
		{"from ahead of the last, which is there", []int{top, top}, top - 1, top - 1},
		{"from within the last span", []int{5, top}, 9, -1},
		{"from ahead of the last span", []int{5, top}, 4, 4},
		{"beyond the last span", []int{5, top}, top + 1, -1},
		{"of all, from 0", []int{0, top}, 0, -1},
		{"of all, from below 0", []int{0, top}, -1, -1},
		{"of all, far beyond", []int{0, top}, math.MaxInt, -1},
	} {
		if got := set(t, c.ends...).Gap(c.from); got != c.want {
			t.Errorf("%s: Gap(%d) = %d, not %d", c.name, c.from, got, c.want)
		}
	}
}

// A look changes nothing.
func TestP5_2LooksChangeNothing(t *testing.T) {
	s := set(t, 1, 3, 5, 5, 9, top)
	for range 3 {
		for _, n := range []int{-1, 0, 3, 4, 9, top, math.MaxInt} {
			s.Has(n)
			s.Gap(n)
		}
		s.Ends()
		s.Spans()
		s.Clone()
		for range s.All() {
			break
		}
		holds(t, s, spans(1, 3, 5, 5, 9, top)...)
	}
}

// What the iterator tells is what was there as the range began, whatever becomes of the set meanwhile.
func TestP5_2AllWhileTheSetChanges(t *testing.T) {
	changes := map[string]func(s *ranges.Set, p api.Span) api.Errno{
		"removed":         func(s *ranges.Set, p api.Span) api.Errno { return s.Remove(p.First, p.Last) },
		"all removed":     func(s *ranges.Set, p api.Span) api.Errno { return s.Remove(0, top) },
		"others removed":  func(s *ranges.Set, p api.Span) api.Errno { return s.Remove(p.Last+1, top) },
		"next parted":     func(s *ranges.Set, p api.Span) api.Errno { return s.Remove(p.Last+8, p.Last+8) },
		"grown behind":    func(s *ranges.Set, p api.Span) api.Errno { return s.Add(p.First, p.Last+1) },
		"grown ahead":     func(s *ranges.Set, p api.Span) api.Errno { return s.Add(p.First-1, p.Last) },
		"one more ahead":  func(s *ranges.Set, p api.Span) api.Errno { return s.Add(0, 0) },
		"one more behind": func(s *ranges.Set, p api.Span) api.Errno { return s.Add(p.Last+1000, p.Last+1000) },
		"all added":       func(s *ranges.Set, p api.Span) api.Errno { return s.Add(0, top) },
	}
	for name, change := range changes {
		s := ranges.New()
		for i := range 20 {
			add(t, s, 10*i+5, 10*i+8)
		}
		ahead := all(s)
		var told []api.Span
		for p := range s.All() {
			told = append(told, p)
			if e := change(s, p); e != api.OK {
				t.Fatalf("%s: %d", name, int(e))
			}
		}
		if !slices.Equal(told, ahead) {
			t.Errorf("%s: told %v, not %v", name, told, ahead)
		}
		if slices.Equal(all(s), ahead) {
			t.Errorf("%s: nothing has changed", name)
		}
	}
}

func TestP5_2AllTwice(t *testing.T) {
	s := set(t, 1, 2, 5, 7)
	every := s.All()
	add(t, s, 9, 9) // ahead of the range: it is told
	for range 2 {
		if got := slices.Collect(every); !slices.Equal(got, spans(1, 2, 5, 7, 9, 9)) {
			t.Fatal(got)
		}
	}
	remove(t, s, 2, 6)
	if got := slices.Collect(every); !slices.Equal(got, spans(1, 1, 7, 7, 9, 9)) {
		t.Fatal(got)
	}
	remove(t, s, 0, top)
	if got := slices.Collect(every); len(got) != 0 {
		t.Fatal(got)
	}
	add(t, s, 4, 4)
	if got := slices.Collect(every); !slices.Equal(got, spans(4, 4)) {
		t.Fatal(got)
	}
}

func TestP5_2AllLeftEarly(t *testing.T) {
	s := set(t, 1, 2, 5, 7, 9, 9)
	every := s.All()
	for most := 1; most <= 3; most++ {
		var told []api.Span
		for p := range every {
			told = append(told, p)
			if len(told) == most {
				break
			}
		}
		if !slices.Equal(told, spans(1, 2, 5, 7, 9, 9)[:most]) {
			t.Fatalf("left behind %d: %v", most, told)
		}
	}
	holds(t, s, spans(1, 2, 5, 7, 9, 9)...)
}

// Each range goes on by itself, within one another too.
func TestP5_2AllWithinAll(t *testing.T) {
	s := set(t, 1, 2, 5, 7, 9, 9)
	every := s.All()
	var outer, inner []api.Span
	for p := range every {
		outer = append(outer, p)
		for q := range every {
			inner = append(inner, q)
		}
		remove(t, s, p.First, p.Last)
	}
	if !slices.Equal(outer, spans(1, 2, 5, 7, 9, 9)) {
		t.Error(outer)
	}
	if !slices.Equal(inner, spans(1, 2, 5, 7, 9, 9, 5, 7, 9, 9, 9, 9)) {
		t.Error(inner)
	}
}

// An iterator whose set was nil or a plain one tells nothing, however often.
func TestP5_2AllOfNoSet(t *testing.T) {
	var none *ranges.Set
	for _, s := range []*ranges.Set{none, {}} {
		every := s.All()
		for range 2 {
			if got := slices.Collect(every); len(got) != 0 {
				t.Error(got)
			}
		}
	}
}

func TestP5_2Clone(t *testing.T) {
	for _, ends := range [][]int{nil, {4, 4}, {0, top}, {1, 2, 5, 7, 9, 9}} {
		s := set(t, ends...)
		c := s.Clone()
		holds(t, c, spans(ends...)...)
		add(t, c, 20, 30)
		remove(t, c, 0, 5)
		holds(t, s, spans(ends...)...)
		behind := all(c)
		remove(t, s, 0, top)
		add(t, s, 3, 3)
		holds(t, c, behind...)
		holds(t, s, spans(3, 3)...)
	}
}

// A clone shares no memory with its set, whichever of them has room left.
func TestP5_2CloneApart(t *testing.T) {
	s := full(t, 100)
	remove(t, s, 500, top)
	c, want := s.Clone(), all(s)
	for i := range 20 {
		add(t, s, 1000+2*i, 1000+2*i)
		add(t, c, 2000+2*i, 2000+2*i)
	}
	if got := all(s); !slices.Equal(got[:len(want)], want) || got[len(want)] != (api.Span{First: 1000, Last: 1000}) {
		t.Error(got)
	}
	if got := all(c); !slices.Equal(got[:len(want)], want) || got[len(want)] != (api.Span{First: 2000, Last: 2000}) {
		t.Error(got)
	}
	d := c.Clone().Clone()
	remove(t, c, 0, top)
	if d.Spans() != len(want)+20 || c.Spans() != 0 {
		t.Errorf("%d and %d spans", d.Spans(), c.Spans())
	}
}
