package ledger_test

import (
	"math"
	"slices"
	"testing"

	"caravel/api"
	"caravel/ledger"
)

// The chapter's example.
func TestP15_2Example(t *testing.T) {
	l := begin(t)
	for i := range 5 {
		sends(t, l, eliciting(i, 10*i))
	}
	acks(t, l, spans(4, 4), 100, 95, came{acked: []int{4}, lost: []int{0, 1}, sample: 60, spread: 10})
	due(t, l, 95, 115)
	passes(t, l, 115, 95, came{lost: []int{2}, sample: none})
	flight(t, l, 100, 1, 40)
}

func TestP15_1Begins(t *testing.T) {
	l := begin(t)
	flight(t, l, 0, 0, 0)
	due(t, l, 0, none)
	due(t, l, 7, none)
	clears(t, l)
	passes(t, l, 0, 0, came{sample: none})
	r, e := l.Acked(spans(0, 0), 0, 0)
	fails(t, r, e, api.ErrForm)
	flight(t, l, 0, 0, 0)
	sends(t, l, quiet(0, 0))
}

// What one is told is nothing to another.
func TestP15_1Apart(t *testing.T) {
	a, b := begin(t), begin(t)
	sends(t, a, eliciting(7, 500), eliciting(8, 500))
	sends(t, b, quiet(0, 3), eliciting(1, 4))
	r, e := b.Acked(spans(7, 7), 500, 0)
	fails(t, r, e, api.ErrForm)
	acks(t, a, spans(8, 8), 600, 0, came{acked: []int{8}, lost: []int{7}, sample: 100})
	passes(t, b, 5, 0, came{sample: none})
	flight(t, a, 0, 0, 500)
	flight(t, b, 200, 1, 4)
	clears(t, a)
	clears(t, b, 0, 1)
}

// Each bound, at it.
func TestP15_1Bounds(t *testing.T) {
	for _, number := range []int{0, 1, 1 << 32, top - 1, top} {
		for _, at := range []int{0, 1, 1 << 32, end - 1, end} {
			for _, size := range []int{1, 2, 1200, 65534, 65535} {
				for _, eliciting := range []bool{false, true} {
					p := ledger.Packet{Number: number, At: at, Size: size, Eliciting: eliciting}
					l := begin(t)
					sends(t, l, p)
					if eliciting {
						flight(t, l, size, 1, at)
					} else {
						flight(t, l, size, 0, 0)
					}
					if got := l.Clear(); !slices.Equal(got, []ledger.Packet{p}) {
						t.Fatalf("%v was sent, %v is cleared", p, got)
					}
				}
			}
		}
	}
}

// wrong are packets that may not be.
func wrong() (list []ledger.Packet) {
	right := eliciting(50, 500)
	for _, n := range []int{math.MinInt, -top, -2, -1, top + 1, top + 2, math.MaxInt} {
		p := right
		p.Number = n
		list = append(list, p)
	}
	for _, at := range []int{math.MinInt, -end, -2, -1, end + 1, end + 2, math.MaxInt} {
		p := right
		p.At = at
		list = append(list, p)
	}
	for _, size := range []int{math.MinInt, -65535, -2, -1, 0, 65536, 65537, 1 << 32, math.MaxInt} {
		p := right
		p.Size = size
		list = append(list, p)
	}
	return append(list,
		ledger.Packet{Number: -1, At: -1, Size: 0},
		ledger.Packet{Number: top + 1, At: end + 1, Size: 65536, Eliciting: true},
		ledger.Packet{Number: -1, At: 0, Size: 100},      // it goes back, too
		ledger.Packet{Number: 1, At: 0, Size: 0},         // it was sent, and goes back, too
		ledger.Packet{Number: 1, At: -1, Size: 100},      // it was sent, too
		ledger.Packet{Number: 1, At: end + 1, Size: 100}, // likewise
	)
}

// filled is a ledger with a packet of each sort: 0 and 1 are lost, 2 and 4 have arrived, 3 and 5 are on their way. Its time is 300, the last eliciting one was sent at 240.
func filled(t *testing.T) pair {
	t.Helper()
	p := newPair(t)
	for i := range 6 {
		p.sent(ledger.Packet{Number: i, At: 200 + 10*i, Size: 10 + i, Eliciting: i != 5})
	}
	p.acked(spans(4, 4, 2, 2), 300, 100)
	flight(t, p.l, 28, 1, 240)
	due(t, p.l, 0, 230)
	return p
}

// unchanged asks that a call has changed nothing of a filled ledger: going on in several ways would tell what had changed.
func unchanged(t *testing.T, call func(p pair)) {
	t.Helper()
	for _, goOn := range []func(p pair){
		func(p pair) { p.clear() },
		func(p pair) { p.sent(quiet(6, 300)); p.clear() },
		func(p pair) { p.sent(eliciting(6, 300)); p.acked(spans(5, 5), 300, 100); p.passed(330, 100) },
		func(p pair) { p.passed(300, 71); p.passed(300, 70) },
		func(p pair) { p.acked(spans(5, 5, 0, 3), 300, end) },
		func(p pair) {
			p.acked(spans(3, 3), 300, end)
			p.sent(eliciting(9, 301))
			p.acked(spans(9, 9), 301, end)
		},
	} {
		p := filled(t)
		call(p)
		goOn(p)
	}
}

// Behind what may not be nothing has changed.
func TestP15_1Wrong(t *testing.T) {
	for _, w := range wrong() {
		unchanged(t, func(p pair) {
			refuses(t, p.l, w, api.ErrArg)
			p.sent(w)
		})
		l := begin(t)
		refuses(t, l, w, api.ErrArg)
		flight(t, l, 0, 0, 0)
		sends(t, l, quiet(0, 0))
	}
}

// A number that is not above all that were sent, whatever became of those.
func TestP15_1Twice(t *testing.T) {
	for number := range 6 {
		for _, at := range []int{0, 299, 300, 301, end} { // what goes back, too, is told as sent
			unchanged(t, func(p pair) {
				refuses(t, p.l, eliciting(number, at), api.ErrTwice)
				p.sent(quiet(number, at))
			})
		}
	}
	l := begin(t)
	sends(t, l, quiet(5, 0), quiet(9, 0))
	for number := range 10 { // what was left out comes no more
		refuses(t, l, quiet(number, 0), api.ErrTwice)
	}
	clears(t, l, 5, 9)
	for number := range 10 {
		refuses(t, l, quiet(number, 0), api.ErrTwice)
	}
	sends(t, l, quiet(10, 0), quiet(top, 0))
	refuses(t, l, quiet(top, 0), api.ErrTwice)
	refuses(t, l, quiet(top-1, 0), api.ErrTwice)
	clears(t, l, 10, top)
}

// A time below that of an earlier call, whichever it was.
func TestP15_1Time(t *testing.T) {
	for name, call := range map[string]func(l *ledger.Ledger) (ledger.Result, api.Errno){
		"Sent":  func(l *ledger.Ledger) (r ledger.Result, e api.Errno) { return r, l.Sent(eliciting(2, 100)) },
		"Acked": func(l *ledger.Ledger) (ledger.Result, api.Errno) { return l.Acked(spans(0, 0), 100, 5) },
		"Acked, twice": func(l *ledger.Ledger) (ledger.Result, api.Errno) {
			l.Acked(spans(0, 0), 50, 5)
			return l.Acked(spans(0, 0), 100, 5)
		},
		"Passed":     func(l *ledger.Ledger) (ledger.Result, api.Errno) { return l.Passed(100, 5) },
		"then Clear": func(l *ledger.Ledger) (ledger.Result, api.Errno) { r, e := l.Passed(100, 5); l.Clear(); return r, e },
	} {
		l := begin(t)
		sends(t, l, quiet(0, 40), quiet(1, 50))
		if _, e := call(l); e != api.OK {
			t.Fatal(name, int(e))
		}
		for _, at := range []int{0, 49, 98, 99} {
			refuses(t, l, eliciting(7, at), api.ErrTime)
			r, e := l.Acked(spans(0, 1), at, 5)
			fails(t, r, e, api.ErrTime)
			r, e = l.Passed(at, 5)
			fails(t, r, e, api.ErrTime)
		}
		sends(t, l, eliciting(7, 100))
		if _, e := l.Acked(spans(0, 1), 100, 5); e != api.OK {
			t.Fatal(name, int(e))
		}
		passes(t, l, 100, 5, came{sample: none})
		sends(t, l, eliciting(8, 101))
	}
	unchanged(t, func(p pair) {
		refuses(t, p.l, eliciting(6, 299), api.ErrTime)
		p.sent(eliciting(6, 0))
	})
}

// The time of a call that was refused counts for nothing.
func TestP15_1TimeOfRefused(t *testing.T) {
	unchanged(t, func(p pair) {
		p.sent(ledger.Packet{Number: 9, At: 999, Size: 0})
		p.sent(eliciting(3, 999))
		p.acked(nil, 999, 5)
		p.acked(spans(8, 8), 999, 5)
		p.acked(spans(5, 5), 999, -1)
		p.passed(999, end+1)
	})
}

// A ledger that is nil, or that no call made: nothing is done.
func TestP15_1None(t *testing.T) {
	var plain ledger.Ledger
	for _, l := range []*ledger.Ledger{nil, &plain, {}, new(ledger.Ledger)} {
		for range 2 {
			refuses(t, l, eliciting(0, 0), api.ErrNil)
			for _, w := range wrong() {
				refuses(t, l, w, api.ErrNil)
			}
			for _, late := range []int{math.MinInt, -1, 0, 7, end, end + 1} {
				for _, now := range []int{-1, 0, end, end + 1} {
					r, e := l.Passed(now, late)
					fails(t, r, e, api.ErrNil)
					for _, s := range [][]api.Span{nil, {}, spans(0, 0), spans(5, 7, 1, 2), spans(-1, 3), make([]api.Span, 257)} {
						r, e = l.Acked(s, now, late)
						fails(t, r, e, api.ErrNil)
					}
				}
				due(t, l, late, none)
			}
			flight(t, l, 0, 0, 0)
			if got := l.Clear(); len(got) != 0 {
				t.Fatal(got)
			}
		}
	}
}
