package pacer_test

import (
	"math"
	"math/big"
	"testing"

	"caravel/api"
	"caravel/pacer"
)

const (
	end  = api.MaxTime
	most = 1 << 30 // of a window, and of the time in which something comes in
	long = 1 << 60 // the longest wait
	huge = math.MaxInt
	low  = math.MinInt
)

// model is a pacer as the chapter's words have it, in whole numbers of any size.
type model struct {
	burst, bytes, at *big.Int
}

func whole(n int) *big.Int { return big.NewInt(int64(n)) }

func plus(a, b *big.Int) *big.Int { return new(big.Int).Add(a, b) }

func minus(a, b *big.Int) *big.Int { return new(big.Int).Sub(a, b) }

func times(list ...*big.Int) *big.Int {
	product := whole(1)
	for _, a := range list {
		product.Mul(product, a)
	}
	return product
}

// parts divides, rounded down.
func parts(a, b *big.Int) *big.Int { return new(big.Int).Div(a, b) }

func lesser(a, b *big.Int) *big.Int {
	if a.Cmp(b) < 0 {
		return a
	}
	return b
}

func greater(a, b *big.Int) *big.Int {
	if a.Cmp(b) > 0 {
		return a
	}
	return b
}

func newModel(size int) *model {
	return &model{burst: whole(10 * size), bytes: whole(10 * size), at: whole(0)}
}

// counted tells what a window and an rtt count as.
func counted(window, rtt int) (*big.Int, *big.Int) {
	return lesser(whole(window), whole(most)), greater(lesser(whole(rtt), whole(end)), whole(1))
}

func (m *model) budget(now, window, rtt int) *big.Int {
	if now < 0 || window < 0 || rtt < 0 {
		return whole(0)
	}
	came := whole(0)
	if whole(now).Cmp(m.at) > 0 {
		w, r := counted(window, rtt)
		d := lesser(minus(whole(now), m.at), whole(most))
		came = parts(times(d, w, whole(5)), times(whole(4), r))
	}
	return lesser(plus(m.bytes, came), m.burst)
}

func (m *model) sent(bytes, now, window, rtt int) api.Errno {
	if bytes < 0 || window < 0 || rtt < 0 || now < 0 || now > end {
		return api.ErrArg
	}
	m.bytes = greater(minus(m.budget(now, window, rtt), whole(bytes)), whole(0))
	m.at = greater(m.at, whole(now))
	return api.OK
}

func (m *model) when(bytes, window, rtt int) (*big.Int, api.Errno) {
	wanted := whole(bytes)
	switch {
	case bytes < 0 || window < 0 || rtt < 0:
		return whole(0), api.ErrArg
	case wanted.Cmp(m.burst) > 0:
		return whole(0), api.ErrBig
	case window == 0 && m.bytes.Cmp(wanted) < 0:
		return whole(0), api.ErrNone
	case m.bytes.Cmp(wanted) >= 0:
		return m.at, api.OK
	}
	w, r := counted(window, rtt)
	above := plus(times(minus(wanted, m.bytes), whole(4), r), minus(times(whole(5), w), whole(1)))
	return plus(m.at, lesser(parts(above, times(whole(5), w)), whole(long))), api.OK
}

// pair is a pacer and the model of it: each call is made of both, and must answer the same.
type pair struct {
	t *testing.T
	p *pacer.Pacer
	m *model
}

func newPair(t *testing.T, size int) pair {
	t.Helper()
	p := pair{t, begin(t, size), newModel(size)}
	p.state()
	return p
}

func (p pair) sent(bytes, now, window, rtt int) {
	p.t.Helper()
	before := *p.p
	got, want := p.p.Sent(bytes, now, window, rtt), p.m.sent(bytes, now, window, rtt)
	if got != want {
		p.t.Fatalf("Sent(%d, %d, %d, %d) = %d, not %d", bytes, now, window, rtt, int(got), int(want))
	}
	if got != api.OK && *p.p != before {
		p.t.Fatalf("Sent(%d, %d, %d, %d) = %d changed something", bytes, now, window, rtt, int(got))
	}
	p.state()
}

// budget holds the budget against the model, and against the burst.
func (p pair) budget(now, window, rtt int) {
	before := *p.p
	got, want := p.p.Budget(now, window, rtt), p.m.budget(now, window, rtt)
	if whole(got).Cmp(want) != 0 {
		p.t.Helper()
		p.t.Fatalf("Budget(%d, %d, %d) = %d, not %v", now, window, rtt, got, want)
	}
	if got < 0 || whole(got).Cmp(p.m.burst) > 0 {
		p.t.Helper()
		p.t.Fatalf("Budget(%d, %d, %d) = %d, with a burst of %v", now, window, rtt, got, p.m.burst)
	}
	if *p.p != before {
		p.t.Helper()
		p.t.Fatalf("Budget(%d, %d, %d) changed something", now, window, rtt)
	}
}

// when holds the time against the model, and against the budget then.
func (p pair) when(bytes, window, rtt int) {
	p.t.Helper()
	before := *p.p
	got, e := p.p.When(bytes, window, rtt)
	want, wantError := p.m.when(bytes, window, rtt)
	if whole(got).Cmp(want) != 0 || e != wantError {
		p.t.Fatalf("When(%d, %d, %d) = %d, %d, not %v, %d", bytes, window, rtt, got, int(e), want, int(wantError))
	}
	if *p.p != before {
		p.t.Fatalf("When(%d, %d, %d) changed something", bytes, window, rtt)
	}
	if e == api.OK {
		p.enough(bytes, window, rtt, got)
	}
}

// enough asks that the budget is enough from that time on, and not ahead of it.
func (p pair) enough(bytes, window, rtt, at int) {
	p.t.Helper()
	later := minus(whole(at), p.m.at).Int64()
	if got := p.p.Budget(at, window, rtt); later <= most && got < bytes {
		p.t.Fatalf("Budget(%d, %d, %d) = %d: too few for %d", at, window, rtt, got, bytes)
	}
	if later == 0 {
		return
	}
	if got := p.p.Budget(at-1, window, rtt); got >= bytes {
		p.t.Fatalf("Budget(%d, %d, %d) = %d: enough for %d ahead of %d", at-1, window, rtt, got, bytes, at)
	}
}

// state holds what is kept against the model: with a window of 0 nothing comes in, and no bytes at all may be sent from its time on.
func (p pair) state() {
	p.t.Helper()
	p.budget(0, 0, 0)
	p.budget(huge, 0, 0)
	p.when(0, 0, 0)
}

func begin(t *testing.T, size int) *pacer.Pacer {
	t.Helper()
	p, e := pacer.New(size)
	if e != api.OK || p == nil {
		t.Fatalf("New(%d) = %v, %d", size, p, int(e))
	}
	return p
}

// with tells a pacer that has so many bytes at a time.
func with(t *testing.T, size, bytes, at int) *pacer.Pacer {
	t.Helper()
	p := begin(t, size)
	sends(t, p, 10*size-bytes, at, 0, 0)
	has(t, p, bytes, at)
	return p
}

// sends asks that bytes are taken as sent.
func sends(t *testing.T, p *pacer.Pacer, bytes, now, window, rtt int) {
	if e := p.Sent(bytes, now, window, rtt); e != api.OK {
		t.Helper()
		t.Fatalf("Sent(%d, %d, %d, %d) = %d", bytes, now, window, rtt, int(e))
	}
}

// has asks for what a pacer has, and for its time.
func has(t *testing.T, p *pacer.Pacer, bytes, at int) {
	t.Helper()
	budget(t, p, 0, 0, 0, bytes)
	when(t, p, 0, 0, 0, at)
}

func budget(t *testing.T, p *pacer.Pacer, now, window, rtt, want int) {
	if got := p.Budget(now, window, rtt); got != want {
		t.Helper()
		t.Fatalf("Budget(%d, %d, %d) = %d, not %d", now, window, rtt, got, want)
	}
}

func when(t *testing.T, p *pacer.Pacer, bytes, window, rtt, want int) {
	if got, e := p.When(bytes, window, rtt); got != want || e != api.OK {
		t.Helper()
		t.Fatalf("When(%d, %d, %d) = %d, %d, not %d", bytes, window, rtt, got, int(e), want)
	}
}

// refuses asks that When answers an error, and changes nothing.
func refuses(t *testing.T, p *pacer.Pacer, bytes, window, rtt int, want api.Errno) {
	t.Helper()
	before := *p
	if got, e := p.When(bytes, window, rtt); got != 0 || e != want {
		t.Fatalf("When(%d, %d, %d) = %d, %d, not %d", bytes, window, rtt, got, int(e), int(want))
	}
	if *p != before {
		t.Fatalf("When(%d, %d, %d) changed something", bytes, window, rtt)
	}
}
