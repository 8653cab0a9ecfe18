package outbox_test

import (
	"fmt"
	"math"
	"testing"

	"caravel/api"
	"caravel/outbox"
)

const most = api.MaxBuffer

// What a byte, or the end, can be.
const (
	unsaid = iota // of the end alone: Finish was not called
	isNew
	onWay
	isLost
	arrived
)

// model is an outbox as the chapter's words have it, a byte at a time.
type model struct {
	room  int
	floor int    // the bytes ahead of it have arrived, and the model knows no more of them
	text  []byte // the bytes from floor on
	is    []int  // what each of them is
	end   int
	sent  int
}

func (m *model) written() int { return m.floor + len(m.text) }

// seek tells where the first byte is of which something holds; written, if there is none.
func (m *model) seek(holds func(at, is int) bool) int {
	for i, is := range m.is {
		if holds(m.floor+i, is) {
			return m.floor + i
		}
	}
	return m.written()
}

func (m *model) kept() int {
	return m.written() - m.seek(func(at, is int) bool { return is != arrived })
}

func (m *model) write(data []byte) (int, api.Errno) {
	if m.end != unsaid {
		return 0, api.ErrState
	}
	n := 0
	for n < len(data) && m.kept() < m.room {
		m.text, m.is = append(m.text, data[n]), append(m.is, isNew)
		n++
	}
	return n, api.OK
}

func (m *model) finish() api.Errno {
	if m.end != unsaid {
		return api.ErrState
	}
	m.end = isNew
	return api.OK
}

// run tells how many bytes from one on are of a kind and below a limit, at most most.
func (m *model) run(from, kind, most, limit int) int {
	n := 0
	for n < most && from+n < m.written() && from+n < limit && m.is[from+n-m.floor] == kind {
		n++
	}
	return n
}

// due tells what Next would.
func (m *model) due(most, limit int) (p outbox.Piece, ok bool) {
	lost := m.seek(func(at, is int) bool { return is == isLost })
	fresh := m.seek(func(at, is int) bool { return is == isNew })
	from, n := m.written(), 0
	switch {
	case most < 0:
		return p, false
	case lost < m.written():
		from, n = lost, m.run(lost, isLost, most, math.MaxInt)
	case fresh < m.written() && fresh < limit:
		from, n = fresh, m.run(fresh, isNew, most, limit)
	case fresh < m.written() || m.end != isNew && m.end != isLost:
		return p, false
	}
	if from < m.written() && n == 0 {
		return p, false
	}
	p = outbox.Piece{Offset: from, Data: m.text[from-m.floor : from-m.floor+n]}
	p.Fin = from+n == m.written() && (m.end == isNew || m.end == isLost)
	return p, true
}

func (m *model) next(most, limit int) (p outbox.Piece, ok bool) {
	p, ok = m.due(most, limit)
	if !ok {
		return p, ok
	}
	for i := range p.Data {
		m.is[p.Offset+i-m.floor] = onWay
	}
	if p.Fin {
		m.end = onWay
	}
	m.sent = max(m.sent, p.Offset+len(p.Data))
	return p, true
}

// told goes through a piece's bytes, and its end, if it may be told: each becomes what change says.
func (m *model) told(p outbox.Piece, change func(is int) int) api.Errno {
	n := len(p.Data)
	if p.Offset < 0 || p.Offset > m.sent || n > m.sent-p.Offset {
		return api.ErrArg
	}
	if p.Fin && (m.end == unsaid || m.end == isNew || p.Offset+n != m.written()) {
		return api.ErrArg
	}
	for at := max(p.Offset, m.floor); at < p.Offset+n; at++ {
		m.is[at-m.floor] = change(m.is[at-m.floor])
	}
	if p.Fin {
		m.end = change(m.end)
	}
	return api.OK
}

func (m *model) acked(p outbox.Piece) api.Errno {
	return m.told(p, func(is int) int { return arrived })
}

func (m *model) lost(p outbox.Piece) api.Errno {
	return m.told(p, func(is int) int {
		if is == onWay {
			return isLost
		}
		return is
	})
}

func (m *model) done() bool { return m.end == arrived && m.kept() == 0 }

// pair is an outbox and the model of it: each call is made of both, and must answer the same.
type pair struct {
	t *testing.T
	b *outbox.Outbox
	m *model
}

func newPair(t *testing.T, room int) pair {
	t.Helper()
	return pair{t, begin(t, room), &model{room: room}}
}

// newPairAt tells one of which so many bytes have arrived.
func newPairAt(t *testing.T, room, place int) pair {
	t.Helper()
	p := newPair(t, room)
	for at := 0; at < place; {
		some := letters(min(room, place-at))
		writes(t, p.b, string(some), len(some))
		acks(t, p.b, tells(t, p.b, most, math.MaxInt, at, string(some), false))
		at += len(some)
	}
	p.m.floor, p.m.sent = place, place
	p.looks()
	return p
}

func (p pair) write(data []byte) int {
	got, e := p.b.Write(data)
	want, wantE := p.m.write(data)
	if got != want || e != wantE {
		p.t.Helper()
		p.t.Fatalf("Write(%.60q) = %d, %d, not %d, %d", data, got, int(e), want, int(wantE))
	}
	p.looks()
	return got
}

func (p pair) finish() api.Errno {
	got, want := p.b.Finish(), p.m.finish()
	if got != want {
		p.t.Helper()
		p.t.Fatalf("Finish() = %d, not %d", int(got), int(want))
	}
	p.looks()
	return got
}

func (p pair) next(most, limit int) (outbox.Piece, bool) {
	got, ok := p.b.Next(most, limit)
	want, wantOk := p.m.next(most, limit)
	if ok != wantOk || !same(got, want) {
		p.t.Helper()
		p.t.Fatalf("Next(%d, %d) = %v, %v, not %v, %v", most, limit, show(got), ok, show(want), wantOk)
	}
	p.looks()
	return got, ok
}

func (p pair) acked(x outbox.Piece) api.Errno {
	got, want := p.b.Acked(x), p.m.acked(x)
	if got != want {
		p.t.Helper()
		p.t.Fatalf("Acked(%v) = %d, not %d", show(x), int(got), int(want))
	}
	p.looks()
	return got
}

func (p pair) lost(x outbox.Piece) api.Errno {
	got, want := p.b.Lost(x), p.m.lost(x)
	if got != want {
		p.t.Helper()
		p.t.Fatalf("Lost(%v) = %d, not %d", show(x), int(got), int(want))
	}
	p.looks()
	return got
}

// looks holds what the looks tell against the model.
func (p pair) looks() {
	written, sent, kept := p.b.Sizes()
	if written != p.m.written() || sent != p.m.sent || kept != p.m.kept() {
		p.t.Helper()
		p.t.Fatalf("Sizes() = %d, %d, %d, not %d, %d, %d", written, sent, kept, p.m.written(), p.m.sent, p.m.kept())
	}
	if p.b.Done() != p.m.done() {
		p.t.Helper()
		p.t.Fatalf("Done() = %v", p.b.Done())
	}
	for _, limit := range []int{math.MinInt, sent, sent + 1, math.MaxInt} {
		if _, want := p.m.due(1, limit); p.b.Waits(limit) != want {
			p.t.Helper()
			p.t.Fatalf("Waits(%d) = %v", limit, !want)
		}
	}
}

// drain sends all that is due, and asks that nothing is due then.
func (p pair) drain(most int) (told []outbox.Piece) {
	for x, ok := p.next(most, math.MaxInt); ok; x, ok = p.next(most, math.MaxInt) {
		told = append(told, x)
	}
	return told
}

// complete ends the stream, has all arrive, and asks that it is done.
func (p pair) complete() {
	p.finish()
	p.drain(2)
	if e := p.acked(outbox.Piece{Data: make([]byte, p.m.written()), Fin: true}); e != api.OK || !p.b.Done() {
		p.t.Helper()
		p.t.Fatalf("all has arrived: %d, Done() = %v", int(e), p.b.Done())
	}
	if x, ok := p.next(9, math.MaxInt); ok {
		p.t.Helper()
		p.t.Fatalf("Next = %v behind all", show(x))
	}
}

func same(a, b outbox.Piece) bool {
	return a.Offset == b.Offset && string(a.Data) == string(b.Data) && a.Fin == b.Fin
}

// show tells a piece for a test's report, of long ones the beginning.
func show(p outbox.Piece) string {
	return fmt.Sprintf("{%d, %d bytes %.60q, %v}", p.Offset, len(p.Data), p.Data, p.Fin)
}

func begin(t *testing.T, room int) *outbox.Outbox {
	t.Helper()
	b, e := outbox.New(room)
	if e != api.OK || b == nil {
		t.Fatalf("New(%d) = %v, %d", room, b, int(e))
	}
	return b
}

func writes(t *testing.T, b *outbox.Outbox, text string, want int) {
	if n, e := b.Write([]byte(text)); n != want || e != api.OK {
		t.Helper()
		t.Fatalf("Write(%.60q) = %d, %d, not %d", text, n, int(e), want)
	}
}

func finishes(t *testing.T, b *outbox.Outbox) {
	t.Helper()
	if e := b.Finish(); e != api.OK {
		t.Fatalf("Finish() = %d", int(e))
	}
}

func tells(t *testing.T, b *outbox.Outbox, most, limit, offset int, text string, fin bool) outbox.Piece {
	p, ok := b.Next(most, limit)
	if want := piece(offset, text, fin); !ok || !same(p, want) {
		t.Helper()
		t.Fatalf("Next(%d, %d) = %v, %v, not %v", most, limit, show(p), ok, show(want))
	}
	return p
}

func tellsNone(t *testing.T, b *outbox.Outbox, most, limit int) {
	if p, ok := b.Next(most, limit); ok || p.Offset != 0 || len(p.Data) != 0 || p.Fin {
		t.Helper()
		t.Fatalf("Next(%d, %d) = %v, %v", most, limit, show(p), ok)
	}
}

func acks(t *testing.T, b *outbox.Outbox, p outbox.Piece) {
	if e := b.Acked(p); e != api.OK {
		t.Helper()
		t.Fatalf("Acked(%v) = %d", show(p), int(e))
	}
}

func loses(t *testing.T, b *outbox.Outbox, p outbox.Piece) {
	if e := b.Lost(p); e != api.OK {
		t.Helper()
		t.Fatalf("Lost(%v) = %d", show(p), int(e))
	}
}

func sizes(t *testing.T, b *outbox.Outbox, want ...int) {
	if w, s, k := b.Sizes(); w != want[0] || s != want[1] || k != want[2] {
		t.Helper()
		t.Fatalf("Sizes() = %d, %d, %d, not %v", w, s, k, want)
	}
}

func piece(offset int, text string, fin bool) outbox.Piece {
	return outbox.Piece{Offset: offset, Data: []byte(text), Fin: fin}
}

// letters tells n bytes, no two beside each other the same.
func letters(n int) []byte {
	text := make([]byte, n)
	for i := range text {
		text[i] = byte('a' + i%23)
	}
	return text
}
