package ranges_test

import (
	"slices"
	"testing"

	"caravel/api"
	"caravel/ranges"
)

// refuses asks that a set of too many spans is told, and that nothing has changed.
func refuses(t *testing.T, s *ranges.Set, name string, call func(first, last int) api.Errno, first, last int) {
	t.Helper()
	ahead := all(s)
	if e := call(first, last); e != api.ErrBig {
		t.Fatalf("%s(%d, %d) = %d", name, first, last, int(e))
	}
	if !slices.Equal(all(s), ahead) || s.Spans() != len(ahead) {
		t.Fatalf("%s(%d, %d) changed the set", name, first, last)
	}
}

// The greatest number of a full set.
const greatestOfFull = 10*mostSpans + 2

func TestP5_1AddToFull(t *testing.T) {
	s := full(t, mostSpans)
	for _, p := range spans(0, 0, 0, 8, 14, 14, 14, 18, 16, 16, 8, 8, greatestOfFull+2, greatestOfFull+2, greatestOfFull+2, top, top, top) {
		refuses(t, s, "Add", s.Add, p.First, p.Last)
	}
	for _, c := range []struct {
		name               string
		first, last, spans int
	}{
		{"within", 11, 11, 0},
		{"the same", 20, 22, 0},
		{"touches what is behind it", 9, 9, 0},
		{"touches what is ahead of it", 13, 14, 0},
		{"overlaps", 22, 25, 0},
		{"touches the last", greatestOfFull + 1, greatestOfFull + 5, 0},
		{"joins two", 33, 39, -1},
		{"covers three", 50, 78, -2},
		{"covers three, and touches one", 50, 79, -3},
		{"covers all", 0, top, 1 - mostSpans},
	} {
		s := full(t, mostSpans)
		add(t, s, c.first, c.last)
		if s.Spans() != mostSpans+c.spans {
			t.Errorf("%s: %d spans", c.name, s.Spans())
		}
		for n := c.first; n <= min(c.last, c.first+30); n++ {
			if !s.Has(n) {
				t.Errorf("%s: %d lacks", c.name, n)
			}
		}
	}
}

func TestP5_1RemoveFromFull(t *testing.T) {
	s := full(t, mostSpans)
	refuses(t, s, "Remove", s.Remove, 11, 11)
	refuses(t, s, "Remove", s.Remove, greatestOfFull-1, greatestOfFull-1)
	for _, c := range []struct {
		name               string
		first, last, spans int
	}{
		{"what is not in it", 13, 19, 0},
		{"a beginning", 10, 10, 0},
		{"an end", 12, 15, 0},
		{"parts of two", 12, 20, 0},
		{"a span", 20, 22, -1},
		{"the middle of three", 31, 51, -1},
		{"all", 0, top, -mostSpans},
	} {
		s := full(t, mostSpans)
		remove(t, s, c.first, c.last)
		if s.Spans() != mostSpans+c.spans {
			t.Errorf("%s: %d spans", c.name, s.Spans())
		}
		for n := c.first; n <= min(c.last, c.first+30); n++ {
			if s.Has(n) {
				t.Errorf("%s: %d is still there", c.name, n)
			}
		}
	}
}

// One below the limit there is room for one more, and behind that for none.
func TestP5_1AtTheLimit(t *testing.T) {
	s := full(t, mostSpans-1)
	remove(t, s, 11, 11)
	refuses(t, s, "Add", s.Add, 0, 0)
	refuses(t, s, "Remove", s.Remove, 21, 21)
	add(t, s, 11, 11)
	add(t, s, 0, 0)
	refuses(t, s, "Add", s.Add, top, top)
	remove(t, s, 0, 0)
	add(t, s, top, top)
	refuses(t, s, "Remove", s.Remove, 21, 21)
	add(t, s, 13, 19) // two become one
	remove(t, s, 15, 15)
	refuses(t, s, "Add", s.Add, 0, 0)
	if a, b := s.Ends(); s.Spans() != mostSpans || a != 10 || b != top {
		t.Errorf("%d spans from %d to %d", s.Spans(), a, b)
	}
}

// ErrArg comes ahead of ErrBig.
func TestP5_1WrongSpansOfFull(t *testing.T) {
	s := full(t, mostSpans)
	for _, w := range wrongs() {
		if e := s.Add(w[0], w[1]); e != api.ErrArg {
			t.Errorf("Add(%d, %d) = %d", w[0], w[1], int(e))
		}
		if e := s.Remove(w[0], w[1]); e != api.ErrArg {
			t.Errorf("Remove(%d, %d) = %d", w[0], w[1], int(e))
		}
	}
	if s.Spans() != mostSpans {
		t.Errorf("%d spans", s.Spans())
	}
}

// A full set comes about from behind as well, and by parting.
func TestP5_1FullByOtherWays(t *testing.T) {
	falling, parted := ranges.New(), ranges.New()
	add(t, parted, 0, 2*mostSpans-2)
	for i := range mostSpans {
		add(t, falling, 2*(mostSpans-1-i), 2*(mostSpans-1-i))
		if i > 0 {
			remove(t, parted, 2*i-1, 2*i-1)
		}
	}
	if falling.Spans() != mostSpans || !slices.Equal(all(falling), all(parted)) {
		t.Errorf("%d and %d spans", falling.Spans(), parted.Spans())
	}
	refuses(t, falling, "Add", falling.Add, 2*mostSpans, 2*mostSpans)
	refuses(t, parted, "Add", parted.Add, top, top)
}

func TestP5_2LooksOfFull(t *testing.T) {
	s := full(t, mostSpans)
	if a, b := s.Ends(); a != 10 || b != greatestOfFull {
		t.Errorf("Ends = %d, %d", a, b)
	}
	for n := range 10*mostSpans + 20 {
		in := n >= 10 && n%10 <= 2 && n <= greatestOfFull
		want := n
		if in {
			want = n - n%10 + 3
		}
		if s.Has(n) != in || s.Gap(n) != want {
			t.Fatalf("of %d: Has %v, Gap %d", n, s.Has(n), s.Gap(n))
		}
	}
	c := s.Clone()
	if !slices.Equal(all(c), all(s)) {
		t.Error("the clone has other spans")
	}
	refuses(t, c, "Add", c.Add, 0, 0)
}
