package cubic_test

import (
	"math/big"
	"testing"

	"caravel/api"
	"caravel/cubic"
)

const (
	end  = api.MaxTime
	most = 1 << 30
)

// model is a window as the chapter's words have it, in whole numbers of any size.
type model struct {
	kind                                int
	size, bytes, slow, recovers         *big.Int
	peak, epoch, start, est             *big.Int
	millis, flat, apart, target, before *big.Int // of the last step along the curve
}

func whole(n int) *big.Int { return big.NewInt(int64(n)) }

func plus(a, b *big.Int) *big.Int { return new(big.Int).Add(a, b) }

func minus(a, b *big.Int) *big.Int { return new(big.Int).Sub(a, b) }

func times(list ...*big.Int) *big.Int {
	product := whole(1)
	for _, a := range list {
		product.Mul(product, a)
	}
	return product
}

// parts divides, rounded towards 0.
func parts(a, b *big.Int) *big.Int { return new(big.Int).Quo(a, b) }

func lesser(a, b *big.Int) *big.Int {
	if a.Cmp(b) < 0 {
		return a
	}
	return b
}

func greater(a, b *big.Int) *big.Int {
	if a.Cmp(b) > 0 {
		return a
	}
	return b
}

// cubeRoot halves what lies between, until one number is left.
func cubeRoot(n *big.Int) *big.Int {
	low, high := whole(0), whole(1<<22)
	for minus(high, low).Cmp(whole(1)) > 0 {
		middle := parts(plus(low, high), whole(2))
		if times(middle, middle, middle).Cmp(n) <= 0 {
			low = middle
		} else {
			high = middle
		}
	}
	return low
}

func newModel(kind, size int) *model {
	m := &model{kind: kind, size: whole(size), slow: whole(-1), recovers: whole(-1)}
	m.peak, m.epoch, m.start, m.est = whole(0), whole(-1), whole(0), whole(0)
	m.bytes = lesser(times(whole(10), m.size), greater(times(whole(2), m.size), whole(14720)))
	return m
}

func noTime(n int) bool { return n < 0 || n > end }

func (m *model) acked(bytes, sent, now, rtt int, full bool) api.Errno {
	if bytes < 0 || bytes > 1048576 || noTime(sent) || noTime(now) || noTime(rtt) || sent > now {
		return api.ErrArg
	}
	if !full || whole(sent).Cmp(m.recovers) <= 0 {
		return api.OK
	}
	came := whole(bytes)
	switch {
	case m.slow.Sign() < 0 || m.bytes.Cmp(m.slow) < 0:
		m.bytes = plus(m.bytes, came)
	case m.kind == cubic.Reno:
		m.bytes = plus(m.bytes, parts(times(m.size, came), m.bytes))
	default:
		m.along(came, whole(now), whole(rtt))
	}
	m.bytes = lesser(m.bytes, whole(most))
	return api.OK
}

func (m *model) along(came, now, rtt *big.Int) {
	if m.epoch.Sign() < 0 {
		m.epoch, m.start, m.est, m.peak = now, m.bytes, m.bytes, greater(m.peak, m.bytes)
	}
	million, billion := whole(1000000), whole(1000000000)
	m.before = m.bytes
	m.flat = cubeRoot(parts(times(minus(m.peak, m.start), whole(2500000000)), m.size))
	m.millis = lesser(parts(plus(minus(now, m.epoch), rtt), whole(1000)), million)
	m.apart = lesser(greater(minus(m.millis, m.flat), whole(-1000000)), million)
	cube := times(m.apart, m.apart, m.apart)
	left := new(big.Int).Mod(new(big.Int).Abs(cube), billion)
	left.Mul(left, whole(m.apart.Sign()))
	c := parts(times(parts(cube, billion), m.size, whole(2)), whole(5))
	c = plus(c, parts(times(left, m.size), whole(2500000000)))
	m.target = plus(m.peak, c)
	target := greater(lesser(m.target, parts(times(whole(3), m.bytes), whole(2))), m.bytes)
	m.est = plus(m.est, parts(times(whole(9), m.size, came), times(whole(17), m.bytes)))
	m.bytes = plus(m.bytes, parts(times(minus(target, m.bytes), came), m.bytes))
	m.bytes = greater(m.bytes, m.est)
}

func (m *model) lost(sent, now int) api.Errno {
	if noTime(sent) || noTime(now) {
		return api.ErrArg
	}
	if whole(sent).Cmp(m.recovers) <= 0 {
		return api.OK
	}
	m.recovers = whole(now)
	if m.kind == cubic.Reno {
		m.bytes = parts(m.bytes, whole(2))
	} else {
		if m.bytes.Cmp(m.peak) < 0 {
			m.peak = parts(times(whole(17), m.bytes), whole(20))
		} else {
			m.peak = m.bytes
		}
		m.bytes = parts(times(whole(7), m.bytes), whole(10))
		m.epoch = whole(-1)
	}
	m.bytes = greater(m.bytes, times(whole(2), m.size))
	m.slow = m.bytes
	return api.OK
}

func (m *model) collapse() {
	m.bytes, m.recovers, m.epoch = times(whole(2), m.size), whole(-1), whole(-1)
}

// pair is a window and the model of it: each call is made of both, and must answer the same.
type pair struct {
	t    *testing.T
	w    *cubic.Window
	m    *model
	size int
}

func newPair(t *testing.T, kind, size int) pair {
	t.Helper()
	p := pair{t, begin(t, kind, size), newModel(kind, size), size}
	p.looks()
	return p
}

func (p pair) acked(bytes, sent, now, rtt int, full bool) {
	p.t.Helper()
	before := *p.w
	was, _, recovers := p.w.Told()
	got, want := p.w.Acked(bytes, sent, now, rtt, full), p.m.acked(bytes, sent, now, rtt, full)
	if got != want {
		p.t.Fatalf("Acked(%d, %d, %d, %d, %v) = %d, not %d", bytes, sent, now, rtt, full, int(got), int(want))
	}
	if (got != api.OK || !full || sent <= recovers) && *p.w != before {
		p.t.Fatalf("Acked(%d, %d, %d, %d, %v) changed something", bytes, sent, now, rtt, full)
	}
	p.looks()
	if is, _, _ := p.w.Told(); is < was {
		p.t.Fatalf("Acked(%d, %d, %d, %d, %v) made %d of %d", bytes, sent, now, rtt, full, is, was)
	}
}

func (p pair) lost(sent, now int) {
	p.t.Helper()
	before := *p.w
	was, _, recovers := p.w.Told()
	got, want := p.w.Lost(sent, now), p.m.lost(sent, now)
	if got != want {
		p.t.Fatalf("Lost(%d, %d) = %d, not %d", sent, now, int(got), int(want))
	}
	if (got != api.OK || sent <= recovers) && *p.w != before {
		p.t.Fatalf("Lost(%d, %d) changed something", sent, now)
	}
	p.looks()
	if is, _, _ := p.w.Told(); is > was {
		p.t.Fatalf("Lost(%d, %d) made %d of %d", sent, now, is, was)
	}
}

func (p pair) collapse() {
	p.t.Helper()
	p.w.Collapse()
	p.m.collapse()
	p.looks()
}

// looks holds what is told against the model, and the window against its bounds.
func (p pair) looks() {
	p.t.Helper()
	bytes, slow, recovers := p.w.Told()
	if whole(bytes).Cmp(p.m.bytes) != 0 || whole(slow).Cmp(p.m.slow) != 0 || whole(recovers).Cmp(p.m.recovers) != 0 {
		p.t.Fatalf("Told() = %d, %d, %d, not %v, %v, %v", bytes, slow, recovers, p.m.bytes, p.m.slow, p.m.recovers)
	}
	if bytes < 2*p.size || bytes > most {
		p.t.Fatalf("the window is %d, with packets of %d", bytes, p.size)
	}
}

func begin(t *testing.T, kind, size int) *cubic.Window {
	t.Helper()
	w, e := cubic.New(kind, size)
	if e != api.OK || w == nil {
		t.Fatalf("New(%d, %d) = %v, %d", kind, size, w, int(e))
	}
	return w
}

// grown tells a window that has grown to so many bytes by what was sent at 0.
func grown(t *testing.T, kind, size, bytes int) *cubic.Window {
	t.Helper()
	w := begin(t, kind, size)
	is, _, _ := w.Told()
	for is != bytes {
		was := is
		arrive(t, w, min(bytes-is, 1<<20), 0, 0, 0)
		if is, _, _ = w.Told(); is <= was {
			t.Fatalf("it is %d behind %d, and does not come to %d", is, was, bytes)
		}
	}
	return w
}

// arrive asks that bytes are taken, with a window that was used.
func arrive(t *testing.T, w *cubic.Window, bytes, sent, now, rtt int) {
	if e := w.Acked(bytes, sent, now, rtt, true); e != api.OK {
		t.Helper()
		t.Fatalf("Acked(%d, %d, %d, %d, true) = %d", bytes, sent, now, rtt, int(e))
	}
}

// lose asks that a loss is taken.
func lose(t *testing.T, w *cubic.Window, sent, now int) {
	if e := w.Lost(sent, now); e != api.OK {
		t.Helper()
		t.Fatalf("Lost(%d, %d) = %d", sent, now, int(e))
	}
}

// told asks for what is told: the window, slow, recovers.
func told(t *testing.T, w *cubic.Window, want ...int) {
	window, slow, recovers := w.Told()
	if got := [3]int{window, slow, recovers}; got != [3]int(want) {
		t.Helper()
		t.Fatalf("Told() = %v, not %v", got, want)
	}
}

// still asks that a call answers so, and that it changes nothing.
func still(t *testing.T, w *cubic.Window, want api.Errno, call func() api.Errno) {
	t.Helper()
	before := *w
	if e := call(); e != want {
		t.Fatalf("answers %d, not %d", int(e), int(want))
	}
	if *w != before {
		t.Fatalf("%v was %v", *w, before)
	}
}
