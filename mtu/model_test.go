package mtu_test

import (
	"math"
	"testing"

	"caravel/api"
	"caravel/mtu"
)

const (
	huge = math.MaxInt
	low  = math.MinInt
)

// odd tells sizes that no probe has.
func odd() []int {
	return []int{low, low + 1, -api.MaxVar, -65527, -1200, -1, 0, 1, 1199, 65528, 65535, 65536, 1 << 31, 1 << 32, api.MaxVar, api.MaxVar + 1, huge - 1, huge}
}

// model is a search as the chapter's words have it.
type model struct {
	base, size, ceiling, lost int
}

func (m *model) goesOn() bool { return m.ceiling >= m.size+20 }

func (m *model) probe() (int, bool) {
	if !m.goesOn() {
		return 0, false
	}
	half := (m.size + m.ceiling) / 2
	if (m.size+m.ceiling)%2 == 1 {
		half++
	}
	return half, true
}

func (m *model) acked(size int) api.Errno {
	if probe, ok := m.probe(); !ok || probe != size {
		return api.ErrArg
	}
	m.size = size
	m.lost = 0
	return api.OK
}

func (m *model) loses(size int) api.Errno {
	if probe, ok := m.probe(); !ok || probe != size {
		return api.ErrArg
	}
	m.lost++
	if m.lost < 3 {
		return api.OK
	}
	m.ceiling = size - 1
	m.lost = 0
	return api.OK
}

func (m *model) hole() {
	m.ceiling = m.size - 1
	if m.base > m.ceiling {
		m.ceiling = m.base
	}
	m.size = m.base
	m.lost = 0
}

// pair is a search and the model of it: each call is made of both, and must answer the same.
type pair struct {
	t *testing.T
	s *mtu.Mtu
	m *model
}

func newPair(t *testing.T, base, most int) pair {
	t.Helper()
	p := pair{t, begin(t, base, most), &model{base, base, most, 0}}
	p.same("New", base, most)
	return p
}

// fork tells a pair that goes on by itself from here.
func (p pair) fork() pair {
	s, m := *p.s, *p.m
	return pair{p.t, &s, &m}
}

// same asks for what can be seen, and for what holds of every search.
func (p pair) same(call string, arguments ...int) {
	size, probe, ok := p.s.Size(), 0, false
	for range 2 { // it is not hurt by being looked at
		probe, ok = p.s.Probe()
	}
	want, goesOn := p.m.probe()
	if size != p.m.size || p.s.Size() != size || probe != want || ok != goesOn {
		p.t.Helper()
		p.t.Fatalf("%s%v: size %d, probe %d, %v, not %d, %d, %v (%+v)", call, arguments, size, probe, ok, p.m.size, want, goesOn, *p.m)
	}
	if size < p.m.base || size > p.m.ceiling || ok && (probe <= size || probe > p.m.ceiling) {
		p.t.Helper()
		p.t.Fatalf("%s%v: size %d and probe %d of %+v", call, arguments, size, probe, *p.m)
	}
}

func (p pair) acked(size int) {
	before := *p.s
	got, want := p.s.Acked(size), p.m.acked(size)
	if got != want || got != api.OK && *p.s != before {
		p.t.Helper()
		p.t.Fatalf("Acked(%d) = %d, not %d; changed: %v (%+v)", size, int(got), int(want), *p.s != before, *p.m)
	}
	p.same("Acked", size)
}

func (p pair) lost(size int) {
	before := *p.s
	got, want := p.s.Lost(size), p.m.loses(size)
	if got != want || got != api.OK && *p.s != before {
		p.t.Helper()
		p.t.Fatalf("Lost(%d) = %d, not %d; changed: %v (%+v)", size, int(got), int(want), *p.s != before, *p.m)
	}
	p.same("Lost", size)
}

func (p pair) hole() {
	p.s.Hole()
	p.m.hole()
	p.same("Hole")
}

// now tells what the probe's size is to be; 0, of which nothing can be said, if there is to be none.
func (p pair) now() int {
	size, _ := p.m.probe()
	return size
}

// looks holds all that is kept against the model: by what is refused, and by ways on, of which each is a fork's.
func (p pair) looks() {
	p.t.Helper()
	for _, size := range []int{low, -1, 0, p.m.base, p.m.size, p.m.size + 1, p.now() - 1, p.now() + 1, p.m.ceiling, p.m.ceiling + 1, huge} {
		if size != p.now() {
			p.acked(size)
			p.lost(size)
		}
	}
	for _, way := range []string{"a", "l", "al", "la", "llla", "alll", "lallll", "h", "hl"} {
		p.fork().goes(way)
	}
}

// goes takes a way to its end: over and over what its letters say, till the search does not go on.
func (p pair) goes(way string) {
	p.t.Helper()
	for range 100 {
		for _, letter := range way {
			p.step(letter)
		}
	}
	if _, ok := p.s.Probe(); ok {
		p.t.Fatalf("by %q the search does not end: %+v", way, *p.m)
	}
}

func (p pair) step(letter rune) {
	switch letter {
	case 'a':
		p.acked(p.now())
	case 'l':
		p.lost(p.now())
	case 'h':
		p.hole()
	}
}

// begin tells a new search.
func begin(t *testing.T, base, most int) *mtu.Mtu {
	m, e := mtu.New(base, most)
	if m == nil || e != api.OK {
		t.Helper()
		t.Fatalf("New(%d, %d) = %v, %d", base, most, m, int(e))
	}
	return m
}

// is asks for the size, and for the probe: 0 if there is to be none.
func is(t *testing.T, m *mtu.Mtu, size, probe int) {
	got, ok := m.Probe()
	if m.Size() != size || got != probe || ok != (probe != 0) {
		t.Helper()
		t.Fatalf("size %d, probe %d, %v, not %d and %d", m.Size(), got, ok, size, probe)
	}
}

// now tells the probe's size; 0 if there is none.
func now(m *mtu.Mtu) int {
	size, _ := m.Probe()
	return size
}

func arrives(t *testing.T, m *mtu.Mtu, size int) {
	if e := m.Acked(size); e != api.OK {
		t.Helper()
		t.Fatalf("Acked(%d) = %d", size, int(e))
	}
}

func loses(t *testing.T, m *mtu.Mtu, size, times int) {
	for range times {
		if e := m.Lost(size); e != api.OK {
			t.Helper()
			t.Fatalf("Lost(%d) = %d", size, int(e))
		}
	}
}

// refuses asks that nothing can be said of a probe of that size, and that nothing has changed behind that.
func refuses(t *testing.T, m *mtu.Mtu, size int) {
	before := *m
	if e := m.Acked(size); e != api.ErrArg || *m != before {
		t.Helper()
		t.Fatalf("Acked(%d) = %d; changed: %v", size, int(e), *m != before)
	}
	if e := m.Lost(size); e != api.ErrArg || *m != before {
		t.Helper()
		t.Fatalf("Lost(%d) = %d; changed: %v", size, int(e), *m != before)
	}
}
