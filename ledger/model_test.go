package ledger_test

import (
	"slices"
	"testing"

	"caravel/api"
	"caravel/ledger"
)

const (
	top  = api.MaxVar
	end  = api.MaxTime
	none = -1 // what due asks for where nothing is due, and where there is no sample
)

// What became of a packet of the model's.
const (
	flies = iota
	arrived
	lost
	cleared
)

// model is a ledger as the chapter's words have it, a packet at a time, each remembered for good.
type model struct {
	all   []ledger.Packet
	state map[int]int
	times []int // of all calls that were not refused
	// wide: what spans have counts as arrived, even if it was lost or cleared before. The chapter's words have it that those on their way arrive; no call can tell the two apart.
	wide bool
	told map[int]int // how often spans had a number
}

func newModel(wide bool) *model {
	return &model{state: map[int]int{}, told: map[int]int{}, wide: wide}
}

func (m *model) hasArrived(n int) bool {
	if m.wide {
		return m.told[n] > 0
	}
	state, ok := m.state[n]
	return ok && state == arrived
}

func (m *model) greatest() int {
	greatest := -1
	for _, p := range m.all {
		if m.hasArrived(p.Number) {
			greatest = max(greatest, p.Number)
		}
	}
	return greatest
}

func (m *model) goesBack(now int) bool {
	return slices.ContainsFunc(m.times, func(earlier int) bool { return now < earlier })
}

func (m *model) sent(p ledger.Packet) api.Errno {
	switch {
	case p.Number < 0, p.Number > top, p.At < 0, p.At > end, p.Size < 1, p.Size > 65535:
		return api.ErrArg
	case slices.ContainsFunc(m.all, func(q ledger.Packet) bool { return p.Number <= q.Number }):
		return api.ErrTwice
	case m.goesBack(p.At):
		return api.ErrTime
	}
	m.times = append(m.times, p.At)
	m.all = append(m.all, p)
	m.state[p.Number] = flies
	return api.OK
}

// mayBe tells whether spans are as frame's Ack may have them.
func mayBe(spans []api.Span) bool {
	if len(spans) == 0 || len(spans) > 256 {
		return false
	}
	for i, s := range spans {
		if s.First < 0 || s.Last < s.First || s.Last > top {
			return false
		}
		if i > 0 && s.Last > spans[i-1].First-2 {
			return false
		}
	}
	return true
}

// numbersOf tells how many numbers that were sent spans have, and how many they have in all.
func (m *model) numbersOf(spans []api.Span) (sent, all int) {
	for _, s := range spans {
		all += s.Last - s.First + 1
		for _, p := range m.all {
			if s.First <= p.Number && p.Number <= s.Last {
				sent++
			}
		}
	}
	return sent, all
}

func (m *model) acked(spans []api.Span, now, late int) (r ledger.Result, e api.Errno) {
	sent, all := 0, 0
	if mayBe(spans) {
		sent, all = m.numbersOf(spans)
	}
	switch {
	case now < 0, now > end, late < 0, late > end, !mayBe(spans):
		return r, api.ErrArg
	case m.goesBack(now):
		return r, api.ErrTime
	case sent != all:
		return r, api.ErrForm
	}
	r.Sample = -1
	eliciting := false
	for _, p := range m.all {
		if !slices.ContainsFunc(spans, func(s api.Span) bool { return s.First <= p.Number && p.Number <= s.Last }) {
			continue
		}
		m.told[p.Number]++
		if m.state[p.Number] == flies {
			m.state[p.Number] = arrived
			r.Acked = append(r.Acked, p)
			eliciting = eliciting || p.Eliciting
		}
	}
	for _, p := range r.Acked {
		if p.Number == spans[0].Last && eliciting {
			r.Sample = now - p.At
		}
	}
	m.pass(&r, now, late)
	return r, api.OK
}

func (m *model) passed(now, late int) (r ledger.Result, e api.Errno) {
	switch {
	case now < 0, now > end, late < 0, late > end:
		return r, api.ErrArg
	case m.goesBack(now):
		return r, api.ErrTime
	}
	r.Sample = -1
	m.pass(&r, now, late)
	return r, api.OK
}

func (m *model) pass(r *ledger.Result, now, late int) {
	m.times = append(m.times, now)
	greatest := m.greatest()
	for _, p := range m.all {
		if m.state[p.Number] == flies && p.Number < greatest && (p.Number <= greatest-3 || p.At <= now-late) {
			m.state[p.Number] = lost
			r.Lost = append(r.Lost, p)
		}
	}
	for _, p := range r.Lost {
		for _, q := range r.Lost {
			if p.Eliciting && q.Eliciting && p.Number < q.Number && !m.anyArrived(p.Number, q.Number) {
				r.Spread = max(r.Spread, q.At-p.At)
			}
		}
	}
}

// anyArrived tells whether a number between two others has arrived.
func (m *model) anyArrived(above, below int) bool {
	return slices.ContainsFunc(m.all, func(p ledger.Packet) bool {
		return above < p.Number && p.Number < below && m.hasArrived(p.Number)
	})
}

func (m *model) due(late int) (int, bool) {
	at, greatest := -1, m.greatest()
	for _, p := range m.all {
		if m.state[p.Number] == flies && p.Number < greatest && (at < 0 || p.At < at) {
			at = p.At
		}
	}
	if at < 0 || late < 0 || late > end {
		return 0, false
	}
	return at + late, true
}

func (m *model) flight() (bytes, eliciting, last int) {
	for _, p := range m.all {
		if p.Eliciting {
			last = p.At
		}
		if m.state[p.Number] != flies {
			continue
		}
		bytes += p.Size
		if p.Eliciting {
			eliciting++
		}
	}
	return bytes, eliciting, last
}

func (m *model) clear() (all []ledger.Packet) {
	for _, p := range m.all {
		if m.state[p.Number] == flies {
			m.state[p.Number] = cleared
			all = append(all, p)
		}
	}
	return all
}

// pair is a ledger and the models of it: each call is made of all, and must answer the same.
type pair struct {
	t      *testing.T
	l      *ledger.Ledger
	models [2]*model
}

func newPair(t *testing.T) pair {
	t.Helper()
	p := pair{t, begin(t), [2]*model{newModel(false), newModel(true)}}
	p.looks()
	return p
}

func (p pair) sent(packet ledger.Packet) api.Errno {
	e := p.l.Sent(packet)
	for _, m := range p.models {
		if want := m.sent(packet); e != want {
			p.t.Helper()
			p.t.Fatalf("Sent(%v) = %d, not %d", packet, int(e), int(want))
		}
	}
	p.looks()
	return e
}

func (p pair) acked(spans []api.Span, now, late int) (ledger.Result, api.Errno) {
	given := append(slices.Clone(spans), api.Span{First: 3, Last: 4}) // with spare room behind it
	r, e := p.l.Acked(given[:len(spans)], now, late)
	if !slices.Equal(given, append(slices.Clone(spans), api.Span{First: 3, Last: 4})) {
		p.t.Helper()
		p.t.Fatalf("Acked made %v of %v", given, spans)
	}
	for _, m := range p.models {
		if want, wantE := m.acked(spans, now, late); !same(r, want) || e != wantE {
			p.t.Helper()
			p.t.Fatalf("Acked(%v, %d, %d) = %v, %d, not %v, %d", spans, now, late, r, int(e), want, int(wantE))
		}
	}
	p.looks()
	return r, e
}

func (p pair) passed(now, late int) (ledger.Result, api.Errno) {
	r, e := p.l.Passed(now, late)
	for _, m := range p.models {
		if want, wantE := m.passed(now, late); !same(r, want) || e != wantE {
			p.t.Helper()
			p.t.Fatalf("Passed(%d, %d) = %v, %d, not %v, %d", now, late, r, int(e), want, int(wantE))
		}
	}
	p.looks()
	return r, e
}

func (p pair) clear() []ledger.Packet {
	got := p.l.Clear()
	for _, m := range p.models {
		if want := m.clear(); !slices.Equal(got, want) {
			p.t.Helper()
			p.t.Fatalf("Clear() = %v, not %v", got, want)
		}
	}
	p.looks()
	return got
}

// looks holds what the looks tell against the models.
func (p pair) looks() {
	bytes, eliciting, last := p.l.Flight()
	for _, m := range p.models {
		if b, e, l := m.flight(); b != bytes || e != eliciting || l != last {
			p.t.Helper()
			p.t.Fatalf("Flight() = %d, %d, %d, not %d, %d, %d", bytes, eliciting, last, b, e, l)
		}
		for _, late := range []int{-1, 0, 7, end, end + 1} {
			at, ok := p.l.Due(late)
			if want, wantOk := m.due(late); at != want || ok != wantOk {
				p.t.Helper()
				p.t.Fatalf("Due(%d) = %d, %v, not %d, %v", late, at, ok, want, wantOk)
			}
		}
	}
}

// same tells whether two results are alike.
func same(a, b ledger.Result) bool {
	return slices.Equal(a.Acked, b.Acked) && slices.Equal(a.Lost, b.Lost) && a.Sample == b.Sample && a.Spread == b.Spread
}

func begin(t *testing.T) *ledger.Ledger {
	t.Helper()
	l := ledger.New()
	if l == nil {
		t.Fatal("New() is nil")
	}
	return l
}

// eliciting and quiet are packets of 100 bytes.
func eliciting(number, at int) ledger.Packet {
	return ledger.Packet{Number: number, At: at, Size: 100, Eliciting: true}
}

func quiet(number, at int) ledger.Packet {
	return ledger.Packet{Number: number, At: at, Size: 100}
}

// sends asks that packets are sent.
func sends(t *testing.T, l *ledger.Ledger, list ...ledger.Packet) {
	for _, p := range list {
		if e := l.Sent(p); e != api.OK {
			t.Helper()
			t.Fatalf("Sent(%v) = %d", p, int(e))
		}
	}
}

// refuses asks that a packet answers an error.
func refuses(t *testing.T, l *ledger.Ledger, p ledger.Packet, want api.Errno) {
	if e := l.Sent(p); e != want {
		t.Helper()
		t.Fatalf("Sent(%v) = %d, not %d", p, int(e), int(want))
	}
}

// came is what a result has, by packets' numbers.
type came struct {
	acked, lost    []int
	sample, spread int
}

func (c came) is(t *testing.T, r ledger.Result, e api.Errno) {
	if e != api.OK || !slices.Equal(numbers(r.Acked), c.acked) || !slices.Equal(numbers(r.Lost), c.lost) || r.Sample != c.sample || r.Spread != c.spread {
		t.Helper()
		t.Fatalf("%v, %d, not %v", r, int(e), c)
	}
}

func numbers(list []ledger.Packet) (all []int) {
	for _, p := range list {
		all = append(all, p.Number)
	}
	return all
}

func acks(t *testing.T, l *ledger.Ledger, spans []api.Span, now, late int, want came) {
	t.Helper()
	r, e := l.Acked(spans, now, late)
	want.is(t, r, e)
}

func passes(t *testing.T, l *ledger.Ledger, now, late int, want came) {
	t.Helper()
	r, e := l.Passed(now, late)
	want.is(t, r, e)
}

// fails asks that what a call answered is an error, without a result.
func fails(t *testing.T, r ledger.Result, e, want api.Errno) {
	if e != want || r.Acked != nil || r.Lost != nil || r.Sample != 0 || r.Spread != 0 {
		t.Helper()
		t.Fatalf("%v, %d, not %d", r, int(e), int(want))
	}
}

// spans makes spans, each by its first and last number.
func spans(ends ...int) (list []api.Span) {
	for i := 0; i < len(ends); i += 2 {
		list = append(list, api.Span{First: ends[i], Last: ends[i+1]})
	}
	return list
}

// flight asks for what is on its way.
func flight(t *testing.T, l *ledger.Ledger, want ...int) {
	bytes, eliciting, last := l.Flight()
	if got := [3]int{bytes, eliciting, last}; got != [3]int(want) {
		t.Helper()
		t.Fatalf("Flight() = %v, not %v", got, want)
	}
}

func due(t *testing.T, l *ledger.Ledger, late, want int) {
	at, ok := l.Due(late)
	if ok != (want != none) || ok && at != want || !ok && at != 0 {
		t.Helper()
		t.Fatalf("Due(%d) = %d, %v, not %d", late, at, ok, want)
	}
}

func clears(t *testing.T, l *ledger.Ledger, want ...int) {
	if got := l.Clear(); !slices.Equal(numbers(got), want) {
		t.Helper()
		t.Fatalf("Clear() = %v, not %v", got, want)
	}
}
