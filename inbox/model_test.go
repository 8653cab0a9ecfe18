package inbox_test

import (
	"testing"

	"caravel/api"
	"caravel/inbox"
)

const (
	top  = api.MaxVar
	most = api.MaxBuffer
)

// model is an inbox as the chapter's words have it, a byte at a time.
type model struct {
	came                             map[int]byte // of every byte that came the first one
	place, room, limit, reach, final int
	known                            bool
}

func newModel(room int) *model { return &model{came: map[int]byte{}, room: room, limit: room} }

func (m *model) put(offset int, data []byte, fin bool) api.Errno {
	if offset < 0 || offset > top-len(data) {
		return api.ErrArg
	}
	end := offset + len(data)
	if m.known && (end > m.final || fin && end != m.final) || fin && end < m.reach {
		return api.ErrFinal
	}
	if end > m.limit {
		return api.ErrFlow
	}
	for i, x := range data {
		if _, ok := m.came[offset+i]; !ok {
			m.came[offset+i] = x
		}
	}
	m.reach = max(m.reach, end)
	if fin {
		m.known, m.final = true, end
	}
	return api.OK
}

func (m *model) end(final int) api.Errno {
	if final < 0 || final > top {
		return api.ErrArg
	}
	if m.known && final != m.final || final < m.reach {
		return api.ErrFinal
	}
	if final > m.limit {
		return api.ErrFlow
	}
	m.known, m.final, m.reach = true, final, final
	return api.OK
}

func (m *model) grow(room int) api.Errno {
	if room < 0 || room > most {
		return api.ErrArg
	}
	m.room = room
	m.limit = max(m.limit, m.place+m.room)
	return api.OK
}

func (m *model) read(n int) (data []byte, done bool) {
	for ; n > 0; n-- {
		x, ok := m.came[m.place]
		if !ok {
			break
		}
		data = append(data, x)
		m.place++
		m.limit = max(m.limit, m.place+m.room)
	}
	return data, m.known && m.place == m.final
}

// view is what the looks tell.
type view struct {
	ready, limit, reach, final, held int
	known                            bool
}

func (m *model) view() view {
	v := view{limit: m.limit, reach: m.reach, final: m.final, known: m.known}
	for _, ok := m.came[m.place]; ok; _, ok = m.came[m.place+v.ready] {
		v.ready++
	}
	for at := range m.came {
		if at >= m.place {
			v.held++
		}
	}
	return v
}

func viewOf(b *inbox.Inbox) view {
	v := view{ready: b.Ready(), limit: b.Limit(), reach: b.Reach(), held: b.Held()}
	v.final, v.known = b.Final()
	return v
}

// pair is an inbox and the model of it: each call is made of both, and must answer the same.
type pair struct {
	t *testing.T
	b *inbox.Inbox
	m *model
}

func newPair(t *testing.T, room int) pair {
	t.Helper()
	return pair{t, begin(t, room), newModel(room)}
}

// newPairAt tells one of which so many bytes were read, with a limit room beyond them. (Of bytes that were read the model needs none.)
func newPairAt(t *testing.T, room, place int) pair {
	t.Helper()
	p := newPair(t, room)
	for p.m.place < place {
		some := letters(min(room, place-p.m.place))
		put(t, p.b, p.m.place, string(some), false)
		reads(t, p.b, len(some), string(some), false)
		p.m.place += len(some)
	}
	p.m.reach, p.m.limit = place, place+room
	p.looks()
	return p
}

func (p pair) put(offset int, data []byte, fin bool) api.Errno {
	p.t.Helper()
	got, want := p.b.Put(offset, data, fin), p.m.put(offset, data, fin)
	if got != want {
		p.t.Fatalf("Put(%d, %q, %v) = %d, not %d", offset, data, fin, int(got), int(want))
	}
	p.looks()
	return got
}

func (p pair) end(final int) api.Errno {
	p.t.Helper()
	got, want := p.b.End(final), p.m.end(final)
	if got != want {
		p.t.Fatalf("End(%d) = %d, not %d", final, int(got), int(want))
	}
	p.looks()
	return got
}

func (p pair) grow(room int) api.Errno {
	p.t.Helper()
	got, want := p.b.Grow(room), p.m.grow(room)
	if got != want {
		p.t.Fatalf("Grow(%d) = %d, not %d", room, int(got), int(want))
	}
	p.looks()
	return got
}

func (p pair) read(n int) {
	p.t.Helper()
	got, done := p.b.Read(n)
	want, wantDone := p.m.read(n)
	if string(got) != string(want) || done != wantDone {
		p.t.Fatalf("Read(%d) = %q, %v, not %q, %v", n, got, done, want, wantDone)
	}
	p.looks()
}

func (p pair) looks() {
	p.t.Helper()
	got, want := viewOf(p.b), p.m.view()
	if got != want {
		p.t.Fatalf("looks %+v, not %+v", got, want)
	}
	if got.held > got.limit-p.m.place || got.ready > got.held {
		p.t.Fatalf("%d bytes held, %d of them ready, with a limit of %d at %d", got.held, got.ready, got.limit, p.m.place)
	}
}

func begin(t *testing.T, room int) *inbox.Inbox {
	t.Helper()
	b, e := inbox.New(room)
	if e != api.OK || b == nil {
		t.Fatalf("New(%d) = %v, %d", room, b, int(e))
	}
	return b
}

func put(t *testing.T, b *inbox.Inbox, offset int, text string, fin bool) {
	t.Helper()
	if e := b.Put(offset, []byte(text), fin); e != api.OK {
		t.Fatalf("Put(%d, %q, %v) = %d", offset, text, fin, int(e))
	}
}

func reads(t *testing.T, b *inbox.Inbox, n int, want string, wantDone bool) {
	t.Helper()
	if got, done := b.Read(n); string(got) != want || done != wantDone {
		t.Fatalf("Read(%d) = %q, %v, not %q, %v", n, got, done, want, wantDone)
	}
}

func sees(t *testing.T, b *inbox.Inbox, want view) {
	t.Helper()
	if got := viewOf(b); got != want {
		t.Fatalf("looks %+v, not %+v", got, want)
	}
}

// letters tells n bytes, no two beside each other the same.
func letters(n int) []byte {
	text := make([]byte, n)
	for i := range text {
		text[i] = byte('a' + i%23)
	}
	return text
}
