package ledger_test

import (
	"testing"

	"caravel/api"
	"caravel/ledger"
)

// Behind times that may not be, or go back, nothing has changed.
func TestP15_3Wrong(t *testing.T) {
	for _, n := range notTimes {
		unchanged(t, func(p pair) {
			for _, times := range [][2]int{{n, 5}, {300, n}, {0, n}, {n, n}} {
				r, e := p.l.Passed(times[0], times[1])
				fails(t, r, e, api.ErrArg)
				p.passed(times[0], times[1])
			}
		})
	}
	unchanged(t, func(p pair) {
		for _, now := range []int{0, 298, 299} {
			for _, late := range []int{0, 70, end} {
				r, e := p.l.Passed(now, late)
				fails(t, r, e, api.ErrTime)
				p.passed(now, late)
			}
		}
	})
}

// Ahead of an arrival nothing is lost, however late it is.
func TestP15_3AheadOfAnArrival(t *testing.T) {
	l := begin(t)
	for i := range 9 {
		sends(t, l, eliciting(i, 0))
	}
	passes(t, l, 5, 5, came{sample: none})
	passes(t, l, 5, 0, came{sample: none})
	passes(t, l, end, 0, came{sample: none})
	due(t, l, 0, none)
	flight(t, l, 900, 9, 0)
	acks(t, l, spans(0, 0), end, 0, came{acked: []int{0}, sample: end}) // none is below it
	passes(t, l, end, 0, came{sample: none})
	due(t, l, 0, none)
	flight(t, l, 800, 8, 0)
}

// Behind an arrival what is below it is lost by the time; what is above it is not.
func TestP15_3BehindAnArrival(t *testing.T) {
	l := begin(t)
	sends(t, l, eliciting(0, 10), quiet(1, 20), eliciting(2, 30), eliciting(3, 40), quiet(4, 50))
	acks(t, l, spans(2, 2), 50, 100, came{acked: []int{2}, sample: 20})
	passes(t, l, 109, 100, came{sample: none})
	passes(t, l, 110, 100, came{lost: []int{0}, sample: none})
	passes(t, l, 110, 100, came{sample: none})
	passes(t, l, 119, 100, came{sample: none})
	flight(t, l, 300, 1, 40)
	passes(t, l, 119, 99, came{lost: []int{1}, sample: none})
	passes(t, l, end, 0, came{sample: none})
	flight(t, l, 200, 1, 40)
	sends(t, l, eliciting(5, end))
	acks(t, l, spans(4, 4), end, end-40, came{acked: []int{4}, lost: []int{3}, sample: none})
	clears(t, l, 5)
}

// Whatever is due is lost then, and not before.
func TestP15_3Due(t *testing.T) {
	send := func() *ledger.Ledger {
		l := begin(t)
		sends(t, l, quiet(0, 10), eliciting(1, 20), eliciting(2, 20), quiet(3, 40), eliciting(4, 50))
		return l
	}
	l := send()
	for _, late := range []int{0, 1, 100, end} {
		due(t, l, late, none)
	}
	acks(t, l, spans(0, 0), 50, end, came{acked: []int{0}, sample: none})
	due(t, l, 100, none)
	acks(t, l, spans(2, 2), 50, end, came{acked: []int{2}, sample: 30})
	due(t, l, 100, 120)
	due(t, l, 0, 20)
	due(t, l, 1, 21)
	due(t, l, end, end+20)
	for _, late := range notTimes {
		due(t, l, late, none)
	}
	due(t, l, 100, 120)
	passes(t, l, 119, 100, came{sample: none})
	due(t, l, 100, 120)
	passes(t, l, 120, 100, came{lost: []int{1}, sample: none})
	due(t, l, 100, none)
	acks(t, l, spans(4, 4), 120, 100, came{acked: []int{4}, sample: 70})
	due(t, l, 100, 140)
	acks(t, l, spans(3, 3), 130, 100, came{acked: []int{3}, sample: none})
	due(t, l, 100, none)

	l = send()
	acks(t, l, spans(2, 2), 50, end, came{acked: []int{2}, sample: 30})
	due(t, l, 7, 17) // a quiet one, too
	acks(t, l, spans(0, 0), 50, end, came{acked: []int{0}, sample: none})
	due(t, l, 7, 27)
	clears(t, l, 1, 3, 4)
	due(t, l, 7, none)
	sends(t, l, eliciting(5, 60))
	due(t, l, 7, none)
}

// Due is no call at a time, and Flight neither: asking changes nothing.
func TestP15_3DueChangesNothing(t *testing.T) {
	unchanged(t, func(p pair) {
		for _, late := range append(notTimes, 0, 1, 70, end) {
			p.l.Due(late)
			p.l.Flight()
		}
	})
}

func TestP15_4Flight(t *testing.T) {
	l := begin(t)
	flight(t, l, 0, 0, 0)
	sends(t, l, ledger.Packet{Number: 0, At: 5, Size: 1})
	flight(t, l, 1, 0, 0)
	sends(t, l, ledger.Packet{Number: 1, At: 6, Size: 10, Eliciting: true})
	flight(t, l, 11, 1, 6)
	sends(t, l, ledger.Packet{Number: 2, At: 7, Size: 100})
	flight(t, l, 111, 1, 6)
	sends(t, l, ledger.Packet{Number: 3, At: 8, Size: 1000, Eliciting: true})
	flight(t, l, 1111, 2, 8)
	sends(t, l, ledger.Packet{Number: 5, At: 9, Size: 65535})
	flight(t, l, 66646, 2, 8)
	refuses(t, l, ledger.Packet{Number: 5, At: 10, Size: 7, Eliciting: true}, api.ErrTwice)
	flight(t, l, 66646, 2, 8)
	acks(t, l, spans(3, 3), 9, 100, came{acked: []int{3}, lost: []int{0}, sample: 1})
	flight(t, l, 65645, 1, 8) // the last that was ever sent, though it has arrived
	passes(t, l, 107, 101, came{lost: []int{1}, sample: none})
	flight(t, l, 65635, 0, 8)
	clears(t, l, 2, 5)
	flight(t, l, 0, 0, 8)
	sends(t, l, ledger.Packet{Number: 6, At: 107, Size: 3})
	flight(t, l, 3, 0, 8)
	sends(t, l, ledger.Packet{Number: 7, At: 200, Size: 4, Eliciting: true})
	flight(t, l, 7, 1, 200)
	acks(t, l, spans(6, 7), 300, 0, came{acked: []int{6, 7}, sample: 100})
	flight(t, l, 0, 0, 200)
}

// The last eliciting one may have been sent at 0, and many bytes may be on their way.
func TestP15_4FlightAtTheEdges(t *testing.T) {
	l := begin(t)
	sends(t, l, eliciting(0, 0))
	flight(t, l, 100, 1, 0)
	l = begin(t)
	for i := range 70000 {
		sends(t, l, ledger.Packet{Number: i, At: end, Size: 65535, Eliciting: true})
	}
	flight(t, l, 70000*65535, 70000, end)
}

func TestP15_4Clear(t *testing.T) {
	l := begin(t)
	clears(t, l)
	sends(t, l, eliciting(0, 0), eliciting(1, 0), eliciting(2, 0), quiet(3, 1), eliciting(9, 2))
	acks(t, l, spans(2, 2, 0, 0), 10, 100, came{acked: []int{0, 2}, sample: 10})
	got := l.Clear()
	if want := []ledger.Packet{eliciting(1, 0), quiet(3, 1), eliciting(9, 2)}; len(got) != 3 || [3]ledger.Packet(got) != [3]ledger.Packet(want) {
		t.Fatalf("Clear() = %v, not %v", got, want)
	}
	clears(t, l)
	flight(t, l, 0, 0, 2)
	due(t, l, 0, none)
	passes(t, l, 500, 0, came{sample: none}) // what was cleared is not lost
	acks(t, l, spans(9, 9, 0, 3), 500, 0, came{sample: none})
	r, e := l.Acked(spans(4, 4), 500, 0)
	fails(t, r, e, api.ErrForm)
}

// Behind Clear it is known still what was sent, what arrived and what time it is.
func TestP15_4ClearRemembers(t *testing.T) {
	l := begin(t)
	for i := range 6 {
		sends(t, l, eliciting(i, i))
	}
	acks(t, l, spans(3, 3), 50, 100, came{acked: []int{3}, lost: []int{0}, sample: 47})
	clears(t, l, 1, 2, 4, 5)
	for number := range 6 {
		refuses(t, l, eliciting(number, 60), api.ErrTwice)
	}
	refuses(t, l, eliciting(6, 49), api.ErrTime)
	r, e := l.Passed(49, 0)
	fails(t, r, e, api.ErrTime)
	acks(t, l, spans(3, 3), 50, 0, came{sample: none})
	acks(t, l, spans(0, 5), 50, 0, came{sample: none})
	r, e = l.Acked(spans(0, 6), 50, 0)
	fails(t, r, e, api.ErrForm)
	sends(t, l, eliciting(6, 50), eliciting(7, 51))
	due(t, l, 0, none)
	passes(t, l, 99, 0, came{sample: none})
	acks(t, l, spans(7, 7, 2, 5), 99, 49, came{acked: []int{7}, lost: []int{6}, sample: 48})
	clears(t, l)
}
