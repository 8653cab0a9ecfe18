package ranges

import (
	"iter"
	"slices"

	"caravel/api"
)

// Has tells whether a number is in it.
func (s *Set) Has(n int) bool {
	if s.none() {
		return false
	}
	_, ok := s.holder(n)
	return ok
}

// holder tells the span that a number is in.
func (s *Set) holder(n int) (p api.Span, ok bool) {
	i := s.place(n)
	if i == len(s.spans) || s.spans[i].First > n {
		return p, false
	}
	return s.spans[i], true
}

// All goes through its spans, rising, as they are when a range over it begins.
func (s *Set) All() iter.Seq[api.Span] {
	return func(yield func(api.Span) bool) {
		if s.none() {
			return
		}
		for _, p := range slices.Clone(s.spans) { // who ranges may change the set
			if !yield(p) {
				return
			}
		}
	}
}

// Spans tells how many there are.
func (s *Set) Spans() int {
	if s.none() {
		return 0
	}
	return len(s.spans)
}

// Ends tells the least and the greatest number; -1: there is none.
func (s *Set) Ends() (least, greatest int) {
	switch {
	case s.none():
		return 0, 0
	case len(s.spans) == 0:
		return -1, -1
	}
	return s.spans[0].First, s.spans[len(s.spans)-1].Last
}

// Gap tells the least number from one on that is not in it; -1: there is none up to MaxVar.
func (s *Set) Gap(from int) int {
	if s.none() {
		return 0
	}
	n := max(from, 0)
	if p, ok := s.holder(n); ok {
		n = p.Last + 1 // no span touches another: this one lacks
	}
	if n > api.MaxVar {
		return -1
	}
	return n
}

// Clone tells one that goes on by itself.
func (s *Set) Clone() *Set {
	if s.none() {
		return nil
	}
	c := New()
	for p := range s.All() {
		c.spans = append(c.spans, p)
	}
	return c
}
