package seen

import (
	"cmp"
	"iter"
	"slices"

	"caravel/api"
	"caravel/ranges"
)

// room is how many spans a part may have.
const room = 1024

// numbers is a set of numbers, of any number of spans. One set of ranges has room for too few of them: so it is made of parts, which are short, too, where much is put in.
type numbers struct {
	parts []part // rising; there is always one
}

// part has the numbers from one on, up to where the next part begins.
type part struct {
	from int
	set  *ranges.Set
}

func newNumbers() *numbers { return &numbers{parts: []part{{set: ranges.New()}}} }

// place tells where the part stands that a number belongs to.
func (m *numbers) place(n int) int {
	i, ok := slices.BinarySearchFunc(m.parts, n, func(p part, n int) int { return cmp.Compare(p.from, n) })
	if ok {
		return i
	}
	return i - 1
}

// has tells whether a number is in it.
func (m *numbers) has(n int) bool { return m.parts[m.place(n)].set.Has(n) }

// add puts a number in.
func (m *numbers) add(n int) {
	i := m.place(n)
	m.parts[i].set.Add(n, n)
	if m.parts[i].set.Spans() > room {
		m.split(i)
		return
	}
	m.join(i + 1)
	m.join(i)
}

// split makes two parts of one: the greater half of its spans goes into a new part behind it.
func (m *numbers) split(i int) {
	set := m.parts[i].set
	spans := slices.Collect(set.All())
	half := spans[len(spans)/2:]
	behind := part{from: half[0].First, set: ranges.New()}
	for _, s := range half {
		behind.set.Add(s.First, s.Last)
	}
	set.Remove(behind.from, api.MaxVar)
	m.parts = slices.Insert(m.parts, i+1, behind)
}

// join makes one part of the one that stands there and the one ahead of it, if there are both, and they have few spans: not more than half of what there is room for, lest it is split again soon.
func (m *numbers) join(i int) {
	if i < 1 || i >= len(m.parts) {
		return
	}
	ahead, behind := m.parts[i-1].set, m.parts[i].set
	if ahead.Spans()+behind.Spans() > room/2 {
		return
	}
	for s := range behind.All() {
		ahead.Add(s.First, s.Last)
	}
	m.parts = slices.Delete(m.parts, i, i+1)
}

// drop takes the numbers up to one out; none of them is put in again or asked for.
func (m *numbers) drop(upto int) {
	gone := m.place(upto)
	m.parts = slices.Delete(m.parts, 0, gone)
	m.parts[0].set.Remove(0, upto)
}

// falling goes through its spans, from the greatest downwards.
func (m *numbers) falling() iter.Seq[api.Span] {
	return func(yield func(api.Span) bool) {
		nothing := api.Span{First: -1, Last: -1}
		whole := nothing // it may go on in the part ahead
		for s := range m.pieces() {
			switch {
			case s.Last+1 == whole.First:
				whole.First = s.First
				continue
			case whole != nothing && !yield(whole):
				return
			}
			whole = s
		}
		if whole != nothing {
			yield(whole)
		}
	}
}

// pieces goes through its spans, from the greatest downwards, parted where parts end.
func (m *numbers) pieces() iter.Seq[api.Span] {
	return func(yield func(api.Span) bool) {
		for _, p := range slices.Backward(m.parts) {
			for _, s := range slices.Backward(slices.Collect(p.set.All())) {
				if !yield(s) {
					return
				}
			}
		}
	}
}
