package seen_test

import (
	"math"
	"slices"
	"testing"

	"caravel/api"
	"caravel/seen"
)

const (
	top  = api.MaxVar
	late = api.MaxTime
)

// model is a Seen as the chapter's words have it, a number at a time.
type model struct {
	delay     int
	came      map[int]int // when each number came, forgotten ones too
	forgotten []int       // what Forget was called with
	times     []int       // what Take was called with
	waiting   int
	set       []int // the times that were set since the last Sent
}

func newModel(delay int) *model {
	return &model{delay: delay, came: map[int]int{}}
}

func (m *model) greatest() int {
	greatest := -1
	for n := range m.came {
		greatest = max(greatest, n)
	}
	return greatest
}

func (m *model) isForgotten(n int) bool {
	return slices.ContainsFunc(m.forgotten, func(upto int) bool { return n <= upto })
}

func (m *model) take(number int, eliciting bool, now int) (bool, api.Errno) {
	if number < 0 || number > top || now < 0 || now > late {
		return false, api.ErrArg
	}
	if slices.ContainsFunc(m.times, func(earlier int) bool { return now < earlier }) {
		return false, api.ErrTime
	}
	m.times = append(m.times, now)
	if _, before := m.came[number]; before || m.isForgotten(number) {
		return false, api.OK
	}
	greatest := m.greatest()
	m.came[number] = now
	if !eliciting {
		return true, api.OK
	}
	m.waiting++
	switch {
	case m.waiting >= 2 || number != greatest+1:
		m.set = append(m.set, now)
	case len(m.set) == 0:
		m.set = append(m.set, now+m.delay)
	}
	return true, api.OK
}

// acks tells all spans, from the greatest downwards.
func (m *model) acks() (list []api.Span) {
	var numbers []int
	for n := range m.came {
		if !m.isForgotten(n) {
			numbers = append(numbers, n)
		}
	}
	slices.Sort(numbers)
	for _, n := range slices.Backward(numbers) {
		if k := len(list); k > 0 && list[k-1].First == n+1 {
			list[k-1].First = n
		} else {
			list = append(list, api.Span{First: n, Last: n})
		}
	}
	return list
}

func (m *model) due() (int, bool) {
	if len(m.set) == 0 {
		return 0, false
	}
	return slices.Min(m.set), true
}

func (m *model) sent(now int) int {
	m.waiting, m.set = 0, nil
	greatest := m.greatest()
	if greatest < 0 || now < m.came[greatest] {
		return 0
	}
	return now - m.came[greatest]
}

func (m *model) forget(upto int) api.Errno {
	if upto < -1 || upto > top {
		return api.ErrArg
	}
	m.forgotten = append(m.forgotten, upto)
	return api.OK
}

// pair is a Seen and the model of it: each call is made of both, and must answer the same.
type pair struct {
	t *testing.T
	s *seen.Seen
	m *model
}

func newPair(t *testing.T, delay int) pair {
	t.Helper()
	p := pair{t, begin(t, delay), newModel(delay)}
	p.looks()
	return p
}

func (p pair) take(number int, eliciting bool, now int) (bool, api.Errno) {
	got, e := p.s.Take(number, eliciting, now)
	want, wantE := p.m.take(number, eliciting, now)
	if got != want || e != wantE {
		p.t.Helper()
		p.t.Fatalf("Take(%d, %v, %d) = %v, %d, not %v, %d", number, eliciting, now, got, int(e), want, int(wantE))
	}
	p.looks()
	return got, e
}

func (p pair) sent(now int) int {
	got, want := p.s.Sent(now), p.m.sent(now)
	if got != want {
		p.t.Helper()
		p.t.Fatalf("Sent(%d) = %d, not %d", now, got, want)
	}
	p.looks()
	return got
}

func (p pair) forget(upto int) api.Errno {
	got, want := p.s.Forget(upto), p.m.forget(upto)
	if got != want {
		p.t.Helper()
		p.t.Fatalf("Forget(%d) = %d, not %d", upto, int(got), int(want))
	}
	p.looks()
	return got
}

// looks holds what the looks tell against the model.
func (p pair) looks() {
	at, ok := p.s.Due()
	if want, wantOk := p.m.due(); at != want || ok != wantOk {
		p.t.Helper()
		p.t.Fatalf("Due() = %d, %v, not %d, %v", at, ok, want, wantOk)
	}
	if got, want := p.s.Greatest(), p.m.greatest(); got != want {
		p.t.Helper()
		p.t.Fatalf("Greatest() = %d, not %d", got, want)
	}
	all := p.m.acks()
	for _, most := range []int{math.MinInt, -1, 0, 1, 2, len(all) - 1, len(all), len(all) + 1, math.MaxInt} {
		want := all[:max(0, min(most, len(all)))]
		if got := p.s.Acks(most); !slices.Equal(got, want) {
			p.t.Helper()
			p.t.Fatalf("Acks(%d) = %v, not %v", most, got, want)
		}
	}
}

func begin(t *testing.T, delay int) *seen.Seen {
	t.Helper()
	s, e := seen.New(delay)
	if e != api.OK || s == nil {
		t.Fatalf("New(%d) = %v, %d", delay, s, int(e))
	}
	return s
}

// takes asks that a number is fresh.
func takes(t *testing.T, s *seen.Seen, number int, eliciting bool, now int) {
	if fresh, e := s.Take(number, eliciting, now); !fresh || e != api.OK {
		t.Helper()
		t.Fatalf("Take(%d, %v, %d) = %v, %d", number, eliciting, now, fresh, int(e))
	}
}

// stale asks that a number is not.
func stale(t *testing.T, s *seen.Seen, number int, eliciting bool, now int) {
	if fresh, e := s.Take(number, eliciting, now); fresh || e != api.OK {
		t.Helper()
		t.Fatalf("Take(%d, %v, %d) = %v, %d", number, eliciting, now, fresh, int(e))
	}
}

// refuses asks that a number answers an error.
func refuses(t *testing.T, s *seen.Seen, number int, eliciting bool, now int, want api.Errno) {
	if fresh, e := s.Take(number, eliciting, now); fresh || e != want {
		t.Helper()
		t.Fatalf("Take(%d, %v, %d) = %v, %d, not %d", number, eliciting, now, fresh, int(e), int(want))
	}
}

// none is what due asks for where nothing is due.
const none = -1

func due(t *testing.T, s *seen.Seen, want int) {
	at, ok := s.Due()
	if ok != (want != none) || ok && at != want || !ok && at != 0 {
		t.Helper()
		t.Fatalf("Due() = %d, %v, not %d", at, ok, want)
	}
}

// acks asks for spans, each by its first and last number.
func acks(t *testing.T, s *seen.Seen, most int, want ...int) {
	if got := s.Acks(most); !slices.Equal(got, spans(want...)) {
		t.Helper()
		t.Fatalf("Acks(%d) = %v, not %v", most, got, want)
	}
}

func spans(ends ...int) (list []api.Span) {
	for i := 0; i < len(ends); i += 2 {
		list = append(list, api.Span{First: ends[i], Last: ends[i+1]})
	}
	return list
}

func sends(t *testing.T, s *seen.Seen, now, want int) {
	if delay := s.Sent(now); delay != want {
		t.Helper()
		t.Fatalf("Sent(%d) = %d, not %d", now, delay, want)
	}
}

func forgets(t *testing.T, s *seen.Seen, upto int) {
	if e := s.Forget(upto); e != api.OK {
		t.Helper()
		t.Fatalf("Forget(%d) = %d", upto, int(e))
	}
}

func greatest(t *testing.T, s *seen.Seen, want int) {
	if n := s.Greatest(); n != want {
		t.Helper()
		t.Fatalf("Greatest() = %d, not %d", n, want)
	}
}
