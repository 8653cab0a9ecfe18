package rtt_test

import (
	"math"
	"math/big"
	"testing"

	"caravel/api"
	"caravel/rtt"
)

const end = api.MaxTime

// model is an estimate as the chapter's words have it, in whole numbers of any size.
type model struct {
	most, last, least, smooth, vary *big.Int
	samples                         int
	leastOwn, mostOwn               *big.Int // of the numbers that the chapter calls a
}

func whole(n int) *big.Int { return big.NewInt(int64(n)) }

func plus(a, b *big.Int) *big.Int { return new(big.Int).Add(a, b) }

func minus(a, b *big.Int) *big.Int { return new(big.Int).Sub(a, b) }

func times(n int, a *big.Int) *big.Int { return new(big.Int).Mul(whole(n), a) }

func parts(a *big.Int, n int) *big.Int { return new(big.Int).Div(a, whole(n)) }

func lesser(a, b *big.Int) *big.Int {
	if a.Cmp(b) < 0 {
		return a
	}
	return b
}

func greater(a, b *big.Int) *big.Int {
	if a.Cmp(b) > 0 {
		return a
	}
	return b
}

func newModel(most int) *model {
	return &model{most: whole(most), last: whole(0), least: whole(0), smooth: whole(333000), vary: whole(166500)}
}

func (m *model) sample(took, waited int, known bool) api.Errno {
	if took < 0 || took > end || waited < 0 {
		return api.ErrArg
	}
	m.samples++
	sample, own := whole(took), whole(took)
	m.last = sample
	if m.samples == 1 {
		m.least, m.smooth, m.vary = sample, sample, parts(sample, 2)
		m.leastOwn, m.mostOwn = own, own
		return api.OK
	}
	m.least = lesser(m.least, sample)
	that := whole(waited)
	if known {
		that = lesser(that, m.most)
	}
	if sample.Cmp(plus(m.least, that)) >= 0 {
		own = minus(sample, that)
	}
	m.vary = parts(plus(times(3, m.vary), new(big.Int).Abs(minus(m.smooth, own))), 4)
	m.smooth = parts(plus(times(7, m.smooth), own), 8)
	m.leastOwn, m.mostOwn = lesser(m.leastOwn, own), greater(m.mostOwn, own)
	return api.OK
}

func (m *model) wait(n int, data bool) *big.Int {
	sum := plus(m.smooth, greater(times(4, m.vary), whole(1000)))
	if data {
		sum = plus(sum, m.most)
	}
	for range max(0, min(n, 10)) {
		sum = times(2, sum)
	}
	return sum
}

func (m *model) late() *big.Int {
	return greater(parts(times(9, greater(m.smooth, m.last)), 8), whole(1000))
}

// pair is an estimate and the model of it: each call is made of both, and must answer the same.
type pair struct {
	t *testing.T
	r *rtt.Rtt
	m *model
}

func newPair(t *testing.T, most int) pair {
	t.Helper()
	p := pair{t, begin(t, most), newModel(most)}
	p.looks()
	return p
}

func (p pair) sample(took, waited int, known bool) {
	p.t.Helper()
	got, want := p.r.Sample(took, waited, known), p.m.sample(took, waited, known)
	if got != want {
		p.t.Fatalf("Sample(%d, %d, %v) = %d, not %d", took, waited, known, int(got), int(want))
	}
	p.looks()
}

// looks holds what the looks tell against the model.
func (p pair) looks() {
	p.t.Helper()
	last, least, smooth, vary := p.r.Told()
	p.same("last", last, p.m.last)
	p.same("least", least, p.m.least)
	p.same("smooth", smooth, p.m.smooth)
	p.same("vary", vary, p.m.vary)
	p.same("Late()", p.r.Late(), p.m.late())
	for _, n := range []int{math.MinInt, -1, 0, 1, 5, 9, 10, 11, math.MaxInt} {
		p.same("Wait without data", p.r.Wait(n, false), p.m.wait(n, false))
		p.same("Wait with data", p.r.Wait(n, true), p.m.wait(n, true))
	}
}

func (p pair) same(what string, got int, want *big.Int) {
	if whole(got).Cmp(want) != 0 {
		p.t.Helper()
		p.t.Fatalf("%s: %d, not %v", what, got, want)
	}
}

func begin(t *testing.T, most int) *rtt.Rtt {
	t.Helper()
	r, e := rtt.New(most)
	if e != api.OK || r == nil {
		t.Fatalf("New(%d) = %v, %d", most, r, int(e))
	}
	return r
}

// samples asks that a sample is taken.
func samples(t *testing.T, r *rtt.Rtt, took, waited int, known bool) {
	if e := r.Sample(took, waited, known); e != api.OK {
		t.Helper()
		t.Fatalf("Sample(%d, %d, %v) = %d", took, waited, known, int(e))
	}
}

// refuses asks that a sample answers an error.
func refuses(t *testing.T, r *rtt.Rtt, took, waited int, known bool, want api.Errno) {
	if e := r.Sample(took, waited, known); e != want {
		t.Helper()
		t.Fatalf("Sample(%d, %d, %v) = %d, not %d", took, waited, known, int(e), int(want))
	}
}

// told asks for what is told: last, least, smooth, vary.
func told(t *testing.T, r *rtt.Rtt, want ...int) {
	last, least, smooth, vary := r.Told()
	if got := [4]int{last, least, smooth, vary}; got != [4]int(want) {
		t.Helper()
		t.Fatalf("Told() = %v, not %v", got, want)
	}
}

func waits(t *testing.T, r *rtt.Rtt, n int, data bool, want int) {
	if got := r.Wait(n, data); got != want {
		t.Helper()
		t.Fatalf("Wait(%d, %v) = %d, not %d", n, data, got, want)
	}
}

func late(t *testing.T, r *rtt.Rtt, want int) {
	if got := r.Late(); got != want {
		t.Helper()
		t.Fatalf("Late() = %d, not %d", got, want)
	}
}
