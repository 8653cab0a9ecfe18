package outbox

import (
	"math/rand"
	"testing"

	"caravel/api"
)

// offsets tells what marks have, an offset at a time.
func offsets(t *testing.T, m *marks) map[int]bool {
	t.Helper()
	has, last := map[int]bool{}, -1
	for s := range m.all() {
		if s.First <= last || s.Last < s.First || s.First/size != s.Last/size {
			t.Fatalf("%v behind %d", s, last)
		}
		for at := s.First; at <= s.Last; at++ {
			has[at] = true
		}
		last = s.Last
	}
	return has
}

// sound asks that no block is there without an offset, and that each is found.
func sound(t *testing.T, m *marks) {
	t.Helper()
	numbers := 0
	for s := range m.filled.All() {
		numbers += s.Last - s.First + 1
	}
	if numbers != len(m.blocks) || m.any() != (numbers > 0) {
		t.Fatalf("%d blocks, %d numbers, any %v", len(m.blocks), numbers, m.any())
	}
	for n, block := range m.blocks {
		least, greatest := block.Ends()
		if !m.filled.Has(n) || least < n*size || greatest >= (n+1)*size {
			t.Fatalf("block %d has offsets from %d to %d", n, least, greatest)
		}
	}
}

// runOf tells the first offsets that stand one behind the other, one at a time.
func runOf(has map[int]bool, least, most int) int {
	n := 0
	for n < most && has[least+n] {
		n++
	}
	return n
}

// Spans put in and taken out, of one block and of many, against offsets one by one.
func TestMarks(t *testing.T) {
	const width = 4 * size
	random := rand.New(rand.NewSource(70))
	for range 100 {
		m, has := newMarks(), map[int]bool{}
		for range 40 {
			from := random.Intn(width)
			to := min(width, from+random.Intn(1+random.Intn(2*size)))
			in := random.Intn(2) == 0
			if in {
				m.add(from, to)
			} else {
				m.remove(from, to)
			}
			for at := from; at < to; at++ {
				if in {
					has[at] = true
				} else {
					delete(has, at)
				}
			}
			sound(t, m)
			sameOffsets(t, m, has, width)
			within(t, m, has, random.Intn(width), random.Intn(width))
		}
	}
}

func sameOffsets(t *testing.T, m *marks, has map[int]bool, width int) {
	t.Helper()
	got, least := offsets(t, m), -1
	for at := width; at >= 0; at-- {
		if got[at] != has[at] {
			t.Fatalf("%d: %v, not %v", at, got[at], has[at])
		}
		if has[at] {
			least = at
		}
	}
	if least < 0 {
		return
	}
	if m.least() != least {
		t.Fatalf("least %d, not %d", m.least(), least)
	}
	for _, most := range []int{0, 1, 2, 100, size, size + 1, width, width + 1} {
		if from, to := m.run(most); from != least || to != least+runOf(has, least, most) {
			t.Fatalf("run(%d) = %d, %d from %d on, not %d", most, from, to, least, runOf(has, least, most))
		}
	}
}

// within asks for what lies between two offsets, and leaves at every place.
func within(t *testing.T, m *marks, has map[int]bool, from, to int) {
	t.Helper()
	n, spans := 0, 0
	for s := range m.within(from, to) {
		spans++
		for at := s.First; at <= s.Last; at++ {
			if at < from || at >= to || !has[at] {
				t.Fatalf("%d between %d and %d", at, from, to)
			}
			n++
		}
	}
	for at := from; at < to; at++ {
		if has[at] {
			n--
		}
	}
	if n != 0 {
		t.Fatalf("between %d and %d: %d too many", from, to, n)
	}
	for leave := range spans {
		told := 0
		for range m.within(from, to) {
			if told == leave {
				break
			}
			told++
		}
		if told != leave {
			t.Fatalf("left behind %d, not %d", told, leave)
		}
	}
}

// No call of a set's is refused, though every other offset of a full buffer is in it.
func TestMarksFull(t *testing.T) {
	m := newMarks()
	for at := 0; at < api.MaxBuffer; at += 2 {
		m.add(at, at+1)
	}
	spans := 0
	for s := range m.all() {
		if s != (api.Span{First: 2 * spans, Last: 2 * spans}) {
			t.Fatalf("%v, %d spans ahead of it", s, spans)
		}
		spans++
	}
	if spans != api.MaxBuffer/2 {
		t.Fatalf("%d spans", spans)
	}
	m.add(0, api.MaxBuffer)
	for at := 1; at < api.MaxBuffer; at += 2 {
		m.remove(at, at+1)
	}
	if from, to := m.run(9); from != 0 || to != 1 {
		t.Fatalf("run from %d to %d", from, to)
	}
	m.remove(0, api.MaxBuffer)
	if m.any() || m.filled.Spans() != 0 {
		t.Fatal("something is left")
	}
}

// keepsLittle asks that of bytes that have arrived little is kept, and of what was sent only what has not arrived.
func keepsLittle(t *testing.T, b *Outbox) {
	t.Helper()
	sound(t, b.away)
	sound(t, b.lost)
	away := offsets(t, b.away)
	for at := range away {
		if at < b.first() || at >= b.sent {
			t.Fatalf("%d is away, from %d to %d", at, b.first(), b.sent)
		}
	}
	for at := range offsets(t, b.lost) {
		if !away[at] {
			t.Fatalf("%d is lost, and not away", at)
		}
	}
	if kept := b.kept(); len(b.data) > 2*kept || kept == 0 && b.data != nil {
		t.Fatalf("%d bytes, of which %d are kept", len(b.data), kept)
	}
}

// What has arrived is not kept.
func TestP7_6NothingArrivedIsKept(t *testing.T) {
	random := rand.New(rand.NewSource(71))
	for range 60 {
		room := 1 + random.Intn(3000)
		b, _ := New(room)
		for range 100 {
			b.Write(make([]byte, random.Intn(room+1)))
			b.Next(random.Intn(room+1), b.sent+room)
			at := max(0, b.sent-random.Intn(2*room))
			p := Piece{Offset: at, Data: make([]byte, random.Intn(b.sent-at+1))}
			told := b.Lost
			if random.Intn(2) == 0 {
				told = b.Acked
			}
			if e := told(p); e != api.OK {
				t.Fatal(int(e))
			}
			keepsLittle(t, b)
		}
		b.Next(room, b.sent+room)
		b.Next(room, b.sent+room)
		if e := b.Acked(Piece{Data: make([]byte, b.sent)}); e != api.OK {
			t.Fatal(int(e))
		}
		keepsLittle(t, b)
	}
}
