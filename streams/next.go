package streams

import (
	"slices"

	"caravel/api"
	"caravel/frame"
	"caravel/octet"
	"caravel/outbox"
)

// Next tells the next frame that is to be sent, of at most so many bytes.
func (t *Table) Next(room int) (api.Frame, bool) {
	if t.none() || room < 1 {
		return api.Frame{}, false
	}
	if f, ok := t.nextNotice(room); ok {
		return f, true
	}
	for _, id := range t.turns() {
		if f, ok := t.piece(t.streams[id], room); ok {
			t.turn = id
			return f, true
		}
	}
	return api.Frame{}, false
}

// Acked says that a frame arrived.
func (t *Table) Acked(f api.Frame) {
	switch {
	case t.none():
	case f.Kind != api.Stream:
		t.answered(f, true)
	default:
		s := t.sent(f)
		if s == nil {
			return
		}
		s.out.Acked(pieceOf(f))
		if s.out.Done() {
			t.endWriting(s)
		}
	}
}

// Lost says that a frame was lost.
func (t *Table) Lost(f api.Frame) {
	switch {
	case t.none():
	case f.Kind != api.Stream:
		t.answered(f, false)
	default:
		if s := t.sent(f); s != nil {
			s.out.Lost(pieceOf(f))
		}
	}
}

// sent tells the stream that a piece is of; nil: nothing of it is kept, or the piece was never told.
func (t *Table) sent(f api.Frame) *stream {
	s := t.streams[f.Stream]
	if s == nil || s.out == nil || f.Fin && !s.ended {
		return nil
	}
	return s
}

// pieceOf tells the piece that a frame carries.
func pieceOf(f api.Frame) outbox.Piece {
	return outbox.Piece{Offset: f.Offset, Data: f.Data, Fin: f.Fin}
}

// turns tells the streams that have something to be sent, beginning behind the one that had its turn last, so that a long one does not hold up the others.
func (t *Table) turns() []int {
	var ids []int
	for id, s := range t.streams {
		if !s.reset && s.out.Waits(t.reachable(s)) {
			ids = append(ids, id)
		}
	}
	slices.Sort(ids)
	at, _ := slices.BinarySearch(ids, t.turn+1)
	return slices.Concat(ids[at:], ids[:at])
}

// reachable tells how far a stream's bytes may go now, by its own limit and that of all.
func (t *Table) reachable(s *stream) int {
	_, sent, _ := s.out.Sizes()
	one, _ := s.give.Left()
	all, _ := t.give.Left()
	return sent + min(one, all)
}

// piece tells the next piece of a stream, as a frame of at most so many bytes.
func (t *Table) piece(s *stream, room int) (api.Frame, bool) {
	_, sent, _ := s.out.Sizes()
	f := api.Frame{Kind: api.Stream, Stream: s.id, Offset: s.offset(), Length: true}
	p, ok := s.out.Next(most(f, room), t.reachable(s))
	if !ok {
		return api.Frame{}, false
	}
	grown := max(p.Offset+len(p.Data)-sent, 0)
	s.give.Spend(grown)
	t.give.Spend(grown)
	s.ended = s.ended || p.Fin
	f.Data, f.Fin = p.Data, p.Fin
	return f, true
}

// offset tells where the next piece begins. Below the limit 0 only what was lost is told, and so nothing is sent that would not be; it is put back.
func (s *stream) offset() int {
	p, ok := s.out.Next(1, 0)
	if !ok {
		_, sent, _ := s.out.Sizes()
		return sent
	}
	s.out.Lost(p)
	return p.Offset
}

// most tells how many bytes a frame may carry that is put into so many: -1, if it can't even be put without any. The greater the number of bytes, the more room it needs itself.
func most(f api.Frame, room int) int {
	head, _ := frame.Put(f) // with a byte that says that it carries none
	space := room - len(head) + 1
	n := min(space-1, maxKept)
	for n >= 0 {
		size, _ := octet.Size(n)
		if size+n <= space {
			return n
		}
		n--
	}
	return -1
}
