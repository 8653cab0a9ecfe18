package outbox

import (
	"iter"

	"caravel/api"
	"caravel/ranges"
)

// size is how many offsets a block has.
const size = 1024

// marks is a set of offsets. One set of ranges has too few spans for every other byte of a full buffer: so each block of offsets has one of its own, which is short, too, where much is put in and taken out.
type marks struct {
	blocks map[int]*ranges.Set // by their numbers; none of them is without an offset
	filled *ranges.Set         // these numbers, in order
}

func newMarks() *marks { return &marks{blocks: map[int]*ranges.Set{}, filled: ranges.New()} }

// cut goes through the blocks' numbers from one offset up to another, each with what lies in it.
func cut(from, to int) iter.Seq2[int, api.Span] {
	return func(yield func(int, api.Span) bool) {
		for at := from; at < to; {
			n := at / size
			end := min(to, (n+1)*size)
			if !yield(n, api.Span{First: at, Last: end - 1}) {
				return
			}
			at = end
		}
	}
}

// add puts the offsets from one up to another in.
func (m *marks) add(from, to int) {
	for n, s := range cut(from, to) {
		if m.blocks[n] == nil {
			m.blocks[n] = ranges.New()
			m.filled.Add(n, n)
		}
		m.blocks[n].Add(s.First, s.Last)
	}
}

// remove takes the offsets from one up to another out.
func (m *marks) remove(from, to int) {
	for n, s := range cut(from, to) {
		block := m.blocks[n]
		if block == nil {
			continue
		}
		block.Remove(s.First, s.Last)
		if block.Spans() == 0 {
			delete(m.blocks, n)
			m.filled.Remove(n, n)
		}
	}
}

// any tells whether an offset is in it.
func (m *marks) any() bool { return len(m.blocks) > 0 }

// least tells the least offset; there is one.
func (m *marks) least() int {
	n, _ := m.filled.Ends()
	at, _ := m.blocks[n].Ends()
	return at
}

// all goes through its spans, rising, parted where blocks end.
func (m *marks) all() iter.Seq[api.Span] {
	return func(yield func(api.Span) bool) {
		for numbers := range m.filled.All() {
			for n := numbers.First; n <= numbers.Last; n++ {
				for s := range m.blocks[n].All() {
					if !yield(s) {
						return
					}
				}
			}
		}
	}
}

// within goes through what of its spans lies from one offset up to another, rising, parted where blocks end.
func (m *marks) within(from, to int) iter.Seq[api.Span] {
	return func(yield func(api.Span) bool) {
		for n, part := range cut(from, to) {
			for s := range m.blocks[n].All() { // of a block that is not there: nothing
				s = api.Span{First: max(s.First, part.First), Last: min(s.Last, part.Last)}
				if s.First <= s.Last && !yield(s) {
					return
				}
			}
		}
	}
}

// run tells from where up to where its first offsets stand one behind the other, at most most of them; there is one.
func (m *marks) run(most int) (from, to int) {
	from = m.least()
	to = from
	for s := range m.all() {
		if s.First != to || to-from == most {
			break
		}
		to += min(s.Last+1-to, most-(to-from))
	}
	return from, to
}
