package seen

import (
	"math/rand"
	"slices"
	"testing"

	"caravel/api"
)

// checked asks that each part has what belongs to it, and not too many spans, and tells how many parts there are.
func checked(t *testing.T, m *numbers) int {
	t.Helper()
	for i, p := range m.parts {
		if p.set.Spans() > room {
			t.Fatalf("part %d has %d spans", i, p.set.Spans())
		}
		least, greatest := p.set.Ends()
		if p.set.Spans() == 0 {
			continue
		}
		if least < p.from || i+1 < len(m.parts) && greatest >= m.parts[i+1].from {
			t.Fatalf("part %d from %d has %d to %d", i, p.from, least, greatest)
		}
	}
	return len(m.parts)
}

// A part is split when it has more spans than there is room for, not before.
func TestPartsAtTheLimit(t *testing.T) {
	m := newNumbers()
	for i := range room {
		m.add(2 * i)
	}
	if n := checked(t, m); n != 1 {
		t.Fatalf("%d parts of %d spans", n, room)
	}
	m.add(2 * room)
	if n := checked(t, m); n != 2 {
		t.Fatalf("%d parts of %d spans", n, room+1)
	}
	for i := range 2*room + 1 {
		if m.has(i) != (i%2 == 0) {
			t.Fatalf("of %d: %v", i, m.has(i))
		}
	}
}

// Little is kept for few spans, however many there were.
func TestPartsBecomeFew(t *testing.T) {
	const many = 20 * room
	m := newNumbers()
	for i := range many {
		m.add(2 * i)
	}
	if n := checked(t, m); n < many/room || n > 4*many/room {
		t.Fatalf("%d parts of %d spans", n, many)
	}
	for _, i := range rand.New(rand.NewSource(1)).Perm(many) {
		m.add(2*i + 1)
		if i%100 == 0 {
			checked(t, m)
		}
	}
	if n := checked(t, m); n > 2 {
		t.Fatalf("%d parts of one span", n)
	}
	if list := slices.Collect(m.falling()); len(list) != 1 || list[0] != (api.Span{First: 0, Last: 2*many - 1}) {
		t.Fatal(list)
	}
}

// A part with few spans is joined with the one ahead of it and with the one behind it.
func TestPartsAreJoined(t *testing.T) {
	for _, falling := range []bool{false, true} {
		m := newNumbers()
		for i := range room + 1 {
			m.add(2 * i)
		}
		for i := range room {
			if falling {
				i = room - 1 - i
			}
			m.add(2*i + 1)
			checked(t, m)
		}
		if n := len(m.parts); n != 1 {
			t.Errorf("%d parts of one span, falling: %v", n, falling)
		}
	}
}

// What is dropped is not kept.
func TestPartsAreDropped(t *testing.T) {
	const many = 20 * room
	for _, upto := range []int{0, 1, many/2 - 1, many / 2, many, 2*many - 3, 2*many - 2, 2 * many, api.MaxVar} {
		m := newNumbers()
		for i := range many {
			m.add(2 * i)
		}
		from := m.parts[3].from
		for _, upto := range []int{upto, max(upto, from-1), max(upto, from)} {
			m.drop(upto)
			left := max(0, many-upto/2-1)
			if n := checked(t, m); n > 1+2*left/room+1 {
				t.Fatalf("%d parts behind %d", n, upto)
			}
			if n := len(slices.Collect(m.falling())); n != left {
				t.Fatalf("%d spans behind %d, not %d", n, upto, left)
			}
			for _, p := range m.parts[:cap(m.parts)][len(m.parts):] {
				if p.set != nil {
					t.Fatal("a part is kept that was dropped")
				}
			}
		}
	}
}

// An iterator may be left anywhere, and ranged over again.
func TestFallingIsLeft(t *testing.T) {
	m := newNumbers()
	for i := range 3 * room {
		m.add(2 * i)
	}
	all := m.falling()
	for _, most := range []int{1, 2, room, room + 1, 3*room - 1, 3 * room} {
		n := 0
		for s := range all {
			if s.First != 2*(3*room-1-n) || s.Last != s.First {
				t.Fatalf("%v at %d", s, n)
			}
			if n++; n == most {
				break
			}
		}
		if n != most {
			t.Fatalf("%d of %d spans", n, most)
		}
	}
}
