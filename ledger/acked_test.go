package ledger_test

import (
	"math"
	"slices"
	"testing"

	"caravel/api"
	"caravel/ledger"
)

// notTimes are numbers that are neither times nor how late something may be.
var notTimes = []int{math.MinInt, -end, -2, -1, end + 1, end + 2, 1 << 62, math.MaxInt}

// notAcks are spans that no acknowledgement may have.
func notAcks() [][]api.Span {
	many := make([]api.Span, 257)
	for i := range many {
		many[i] = api.Span{First: 1024 - 2*i, Last: 1024 - 2*i}
	}
	return [][]api.Span{
		nil, {},
		spans(-1, -1), spans(-1, 0), spans(-1, 5), spans(math.MinInt, 5), spans(math.MinInt, math.MinInt), spans(math.MinInt, math.MaxInt),
		spans(1, 0), spans(5, 4), spans(0, -1), spans(5, math.MinInt), spans(math.MaxInt, math.MinInt), spans(math.MaxInt, 0),
		spans(0, top+1), spans(top+1, top+1), spans(0, math.MaxInt), spans(math.MaxInt, math.MaxInt),
		spans(1, 2, 4, 5),                    // rising
		spans(4, 4, 4, 4), spans(4, 5, 3, 4), // over each other
		spans(4, 4, 3, 3), spans(3, 5, 2, 2), // they touch
		spans(4, 4, 2, 2, 1, 1), spans(4, 4, 2, 2, 2, 2), // the last ones do
		spans(4, 4, 2, 1), spans(4, 4, -1, 2), spans(4, 4, -1, -1), spans(4, 4, math.MinInt, math.MinInt),
		spans(0, 4, -2, -2), spans(1, 4, -1, -1), spans(0, 0, math.MaxInt, math.MaxInt), spans(math.MinInt, 0, 3, 3),
		many,
	}
}

// Behind what may not be nothing has changed.
func TestP15_2Wrong(t *testing.T) {
	for _, s := range notAcks() {
		unchanged(t, func(p pair) {
			for _, now := range []int{0, 299, 300, 400, end} { // what goes back, or was not sent, too, is told as what may not be
				r, e := p.l.Acked(s, now, 5)
				fails(t, r, e, api.ErrArg)
			}
			p.acked(s, 300, 0)
		})
	}
	for _, n := range notTimes {
		for _, s := range [][]api.Span{spans(5, 5), spans(5, 5, 0, 3), spans(4, 4), spans(9, 9), nil} {
			unchanged(t, func(p pair) {
				for _, times := range [][2]int{{n, 5}, {300, n}, {0, n}, {n, n}} {
					r, e := p.l.Acked(s, times[0], times[1])
					fails(t, r, e, api.ErrArg)
					p.acked(s, times[0], times[1])
				}
			})
		}
	}
}

// Times at their bounds.
func TestP15_2Times(t *testing.T) {
	for _, late := range []int{0, 1, end - 1, end} {
		for _, now := range []int{0, 1, end - 1, end} {
			p := newPair(t)
			p.sent(eliciting(0, 0))
			p.sent(eliciting(1, 0))
			p.sent(eliciting(2, now))
			r, e := p.acked(spans(2, 2), now, late)
			if e != api.OK || (len(r.Lost) == 2) != (late <= now) {
				t.Fatal(r, int(e))
			}
		}
	}
}

// A time that goes back is told ahead of numbers that were not sent.
func TestP15_2Back(t *testing.T) {
	for _, s := range [][]api.Span{spans(5, 5), spans(4, 4), spans(9, 9), spans(4, 6), spans(top, top)} {
		unchanged(t, func(p pair) {
			for _, now := range []int{0, 298, 299} {
				r, e := p.l.Acked(s, now, 5)
				fails(t, r, e, api.ErrTime)
				p.acked(s, now, 5)
			}
		})
	}
}

// Numbers that were not sent, or of which some were not.
func TestP15_2NotSent(t *testing.T) {
	for _, s := range [][]api.Span{
		spans(6, 6), spans(5, 6), spans(0, 6), spans(0, top), spans(7, 9), spans(top, top),
		spans(6, 6, 3, 3), spans(top, top, 5, 5, 0, 3), spans(8, 9, 5, 6), spans(8, 9, 5, 5),
	} {
		unchanged(t, func(p pair) {
			r, e := p.l.Acked(s, 400, 5)
			fails(t, r, e, api.ErrForm)
			p.acked(s, 400, 5)
		})
	}
}

// Numbers that were left out, below, between and above those that were sent.
func TestP15_2LeftOut(t *testing.T) {
	for _, c := range []struct {
		spans []api.Span
		e     api.Errno
	}{
		{spans(3, 3), api.OK}, {spans(4, 5), api.OK}, {spans(3, 5), api.OK}, {spans(9, 9), api.OK}, {spans(11, 11), api.OK},
		{spans(11, 11, 9, 9), api.OK}, {spans(9, 9, 3, 5), api.OK}, {spans(11, 11, 9, 9, 5, 5, 3, 3), api.OK},
		{spans(2, 2), api.ErrForm}, {spans(2, 3), api.ErrForm}, {spans(0, 5), api.ErrForm}, {spans(0, 0), api.ErrForm},
		{spans(6, 6), api.ErrForm}, {spans(5, 6), api.ErrForm}, {spans(3, 9), api.ErrForm}, {spans(6, 8), api.ErrForm}, {spans(8, 9), api.ErrForm},
		{spans(10, 10), api.ErrForm}, {spans(9, 10), api.ErrForm}, {spans(9, 11), api.ErrForm}, {spans(10, 11), api.ErrForm}, {spans(12, 12), api.ErrForm}, {spans(11, 12), api.ErrForm},
		{spans(11, 11, 9, 9, 3, 6), api.ErrForm}, {spans(11, 11, 9, 9, 3, 5, 1, 1), api.ErrForm}, {spans(11, 11, 7, 7, 3, 5), api.ErrForm}, {spans(3, 11), api.ErrForm},
	} {
		p := newPair(t)
		for _, n := range []int{3, 4, 5, 9, 11} {
			p.sent(eliciting(n, n))
		}
		if r, e := p.acked(c.spans, 20, 5); e != c.e {
			t.Fatalf("%v: %v, %d, not %d", c.spans, r, int(e), int(c.e))
		}
		p.acked(spans(11, 11, 3, 5), 20, 5)
		p.acked(c.spans, 21, 5) // what arrived, or was lost, was sent
		p.clear()
		p.acked(c.spans, 21, 5)
	}
}

// The most spans that may be, and numbers that lie as far apart as may be.
func TestP15_2MostSpans(t *testing.T) {
	p := newPair(t)
	var list []api.Span
	for i := range 257 {
		p.sent(eliciting(2*i, i))
		p.sent(quiet(2*i+1, i))
		list = append(list, api.Span{First: 512 - 2*i, Last: 512 - 2*i})
	}
	if r, e := p.acked(list, 300, 5); e != api.ErrArg {
		t.Fatal(r, int(e))
	}
	if r, e := p.acked(list[:256], 300, 5); e != api.OK || len(r.Acked) != 256 || len(r.Lost) != 257 {
		t.Fatal(r, int(e))
	}
	p = newPair(t)
	for _, n := range []int{0, 1 << 32, top - 2, top} {
		p.sent(eliciting(n, 5))
	}
	if r, e := p.acked(spans(top, top, top-2, top-2, 1<<32, 1<<32), 8, 0); e != api.OK || r.Sample != 3 || !slices.Equal(numbers(r.Acked), []int{1 << 32, top - 2, top}) || !slices.Equal(numbers(r.Lost), []int{0}) {
		t.Fatal(r, int(e))
	}
}

// What arrived, was lost or cleared is told again by spans: it is neither Acked nor Lost any more, but others that the spans have are.
func TestP15_2Again(t *testing.T) {
	send := func() *ledger.Ledger {
		l := begin(t)
		for i := range 8 {
			sends(t, l, eliciting(i, 10*i))
		}
		return l
	}
	l := send()
	acks(t, l, spans(4, 5), 100, 90, came{acked: []int{4, 5}, lost: []int{0, 1, 2}, sample: 50, spread: 20})
	acks(t, l, spans(4, 5), 100, 90, came{sample: none})
	acks(t, l, spans(0, 2), 100, 90, came{sample: none})
	acks(t, l, spans(5, 5, 0, 2), 100, 90, came{sample: none})
	acks(t, l, spans(0, 5), 101, 90, came{acked: []int{3}, sample: none})
	acks(t, l, spans(0, 6), 102, 90, came{acked: []int{6}, sample: 42})
	flight(t, l, 100, 1, 70)
	acks(t, l, spans(0, 7), 103, 90, came{acked: []int{7}, sample: 33})
	acks(t, l, spans(0, 7), 103, 0, came{sample: none})
	flight(t, l, 0, 0, 70)

	l = send()
	clears(t, l, 0, 1, 2, 3, 4, 5, 6, 7)
	acks(t, l, spans(0, 7), 100, 0, came{sample: none})
	sends(t, l, eliciting(8, 100), eliciting(9, 110))
	due(t, l, 5, none) // those that were cleared did not arrive for it
	acks(t, l, spans(7, 9), 130, 25, came{acked: []int{8, 9}, sample: 20})
	acks(t, l, spans(0, 9), 130, 25, came{sample: none})
}

// What is lost stays lost by later times, and what arrived does not become lost.
func TestP15_2Late(t *testing.T) {
	l := begin(t)
	sends(t, l, eliciting(0, 0), eliciting(1, 1), eliciting(2, 2))
	acks(t, l, spans(1, 2), 10, 0, came{acked: []int{1, 2}, lost: []int{0}, sample: 8})
	passes(t, l, end, 0, came{sample: none})
	acks(t, l, spans(0, 0), end, 0, came{sample: none})
	flight(t, l, 0, 0, 2)
	clears(t, l)
}

func TestP15_2Sample(t *testing.T) {
	for _, c := range []struct {
		name   string
		quiet  []int      // of 0 to 5, which are sent at 10 times their number
		before []api.Span // arrived at 60
		spans  []api.Span // arrive at 100
		sample int
	}{
		{"one", nil, nil, spans(2, 2), 80},
		{"the first", nil, nil, spans(0, 0), 100},
		{"the last", nil, nil, spans(5, 5), 50},
		{"several: the greatest's", nil, nil, spans(1, 4), 60},
		{"several spans: the greatest's", nil, nil, spans(4, 4, 0, 2), 60},
		{"one that is quiet", []int{2}, nil, spans(2, 2), none},
		{"all are quiet", []int{1, 2, 3}, nil, spans(1, 3), none},
		{"all quiet, in two spans", []int{1, 3}, nil, spans(3, 3, 1, 1), none},
		{"the greatest is quiet, another is not", []int{3}, nil, spans(2, 3), 70},
		{"the greatest is quiet, another span's is not", []int{3}, nil, spans(3, 3, 0, 0), 70},
		{"the greatest alone is not quiet", []int{0, 1, 2}, nil, spans(0, 3), 70},
		{"those that are not told are quiet", []int{0, 1, 4, 5}, nil, spans(2, 3), 70},
		{"the greatest arrived before", nil, spans(3, 3), spans(2, 3), none},
		{"the greatest span arrived before", nil, spans(3, 3), spans(3, 3, 1, 1), none},
		{"all arrived before", nil, spans(1, 3), spans(1, 3), none},
		{"another arrived before", nil, spans(2, 2), spans(2, 3), 70},
		{"the greatest is below one that arrived before", nil, spans(3, 3), spans(2, 2), 80},
		{"the only eliciting one arrived before", []int{3}, spans(2, 2), spans(2, 3), none},
		{"the greatest was lost before", nil, spans(5, 5), spans(1, 1), none},
		{"lost ones, and one that was not", nil, spans(5, 5), spans(0, 3), 70},
		{"the greatest was lost, behind none", nil, spans(5, 5), spans(0, 2), none},
	} {
		l := begin(t)
		for i := range 6 {
			sends(t, l, ledger.Packet{Number: i, At: 10 * i, Size: 100, Eliciting: !slices.Contains(c.quiet, i)})
		}
		if c.before != nil {
			if _, e := l.Acked(c.before, 60, 90); e != api.OK {
				t.Fatal(c.name, int(e))
			}
		}
		if r, e := l.Acked(c.spans, 100, 300); e != api.OK || r.Sample != c.sample {
			t.Errorf("%s: %v, %d, not %d", c.name, r, int(e), c.sample)
		}
	}
}

// A sample may be 0, or as great as times are.
func TestP15_2SampleAtTheEdges(t *testing.T) {
	l := begin(t)
	sends(t, l, eliciting(0, 0), eliciting(1, 0))
	acks(t, l, spans(0, 0), 0, 9, came{acked: []int{0}})
	acks(t, l, spans(1, 1), end, 9, came{acked: []int{1}, sample: end})
	sends(t, l, eliciting(2, end))
	acks(t, l, spans(2, 2), end, 9, came{acked: []int{2}})
}

// Lost by their numbers alone: so many below the greatest, whatever stands between.
func TestP15_2LostByNumber(t *testing.T) {
	for _, c := range []struct {
		name       string
		sent       []int
		spans      []api.Span
		lost, left []int
	}{
		{"one below", []int{7, 8}, spans(8, 8), nil, []int{7}},
		{"two below", []int{6, 8}, spans(8, 8), nil, []int{6}},
		{"three below", []int{5, 8}, spans(8, 8), []int{5}, nil},
		{"four below", []int{4, 8}, spans(8, 8), []int{4}, nil},
		{"all of these", []int{3, 4, 5, 6, 7, 8}, spans(8, 8), []int{3, 4, 5}, []int{6, 7}},
		{"and some above", []int{3, 4, 5, 6, 7, 8, 9, 12}, spans(8, 8), []int{3, 4, 5}, []int{6, 7, 9, 12}},
		{"the greatest of several counts", []int{0, 1, 2, 3, 4, 5}, spans(5, 5, 3, 3, 1, 1), []int{0, 2}, []int{4}},
		{"three above arrived, the greatest is two above", []int{5, 6, 7}, spans(6, 7), nil, []int{5}},
		{"the greatest is small", []int{0, 1, 2, 3}, spans(2, 2), nil, []int{0, 1, 3}},
		{"the greatest is 0", []int{0, 1, 2, 3}, spans(0, 0), nil, []int{1, 2, 3}},
		{"the greatest is 3", []int{0, 1, 2, 3}, spans(3, 3), []int{0}, []int{1, 2}},
		{"far below", []int{0, top}, spans(top, top), []int{0}, nil},
		{"at the top", []int{top - 4, top - 3, top - 2, top - 1, top}, spans(top, top), []int{top - 4, top - 3}, []int{top - 2, top - 1}},
	} {
		for _, now := range []int{5, 5 + end/2} {
			l := begin(t)
			for _, n := range c.sent {
				sends(t, l, quiet(n, 5))
			}
			r, e := l.Acked(c.spans, now, end) // as late as may be
			if e != api.OK || !slices.Equal(numbers(r.Lost), c.lost) {
				t.Errorf("%s: %v, %d", c.name, r, int(e))
			}
			if left := numbers(l.Clear()); !slices.Equal(left, c.left) {
				t.Errorf("%s: %v are left", c.name, left)
			}
		}
	}
}

// Lost by the time: now less late, one before and one behind it.
func TestP15_2LostByTime(t *testing.T) {
	for _, c := range []struct {
		now, late int
		lost      []int
	}{
		{200, 102, nil}, {200, 101, nil}, {200, 100, []int{4}}, {200, 99, []int{4, 5}}, {200, 98, []int{4, 5}}, {200, 0, []int{4, 5}},
		{102, 2, []int{4}}, {102, 1, []int{4, 5}}, {102, 3, nil}, {102, 0, []int{4, 5}}, {102, end, nil},
		{end, end, nil}, {end, end - 99, nil}, {end, end - 100, []int{4}}, {end, end - 101, []int{4, 5}}, {end, 0, []int{4, 5}},
	} {
		send := func() *ledger.Ledger {
			l := begin(t)
			sends(t, l, quiet(4, 100), quiet(5, 101), quiet(6, 101), quiet(7, 102))
			return l
		}
		l := send()
		acks(t, l, spans(6, 6), c.now, c.late, came{acked: []int{6}, lost: c.lost, sample: none})
		l = send()
		acks(t, l, spans(6, 6), 102, end, came{acked: []int{6}, sample: none})
		acks(t, l, spans(6, 6), c.now, c.late, came{lost: c.lost, sample: none}) // without anything new, too
		l = send()
		acks(t, l, spans(6, 6), 102, end, came{acked: []int{6}, sample: none})
		passes(t, l, c.now, c.late, came{lost: c.lost, sample: none})
	}
}

// One that arrives is not lost, however late it is and however far below; one above the greatest is not lost either.
func TestP15_2NotLost(t *testing.T) {
	l := begin(t)
	for i := range 10 {
		sends(t, l, eliciting(i, 0))
	}
	acks(t, l, spans(6, 6, 0, 1), end, 0, came{acked: []int{0, 1, 6}, lost: []int{2, 3, 4, 5}, sample: end})
	passes(t, l, end, 0, came{sample: none})
	flight(t, l, 300, 3, 0)
	clears(t, l, 7, 8, 9)
}

// Packets that are handed out are the caller's own, and so is each list; what is handed in is not kept.
func TestP15_2Memory(t *testing.T) {
	p := newPair(t)
	for i := range 12 {
		p.sent(eliciting(i, i))
	}
	spoil := func(lists ...[]ledger.Packet) {
		copies := make([][]ledger.Packet, len(lists))
		for i, list := range lists {
			copies[i] = slices.Clone(list)
		}
		for i, list := range lists {
			list = list[:cap(list)]
			for j := range list {
				list[j] = ledger.Packet{Number: 77, At: 77, Size: 77}
			}
			for j := i + 1; j < len(lists); j++ {
				if !slices.Equal(lists[j], copies[j]) {
					t.Fatal("lists share their memory")
				}
			}
		}
	}
	given := spans(7, 8, 5, 5)
	r, e := p.l.Acked(given, 20, 100)
	if e != api.OK || len(r.Acked) != 3 || len(r.Lost) != 5 {
		t.Fatal(r, int(e))
	}
	for _, m := range p.models {
		m.acked(given, 20, 100)
	}
	given[0], given[1] = api.Span{First: 0, Last: 11}, api.Span{First: 0, Last: 11}
	spoil(r.Acked, r.Lost)
	p.looks()
	r, _ = p.passed(20, 14)
	spoil(r.Lost)
	p.looks()
	p.acked(spans(10, 10), 20, 100)
	p.sent(eliciting(12, 20))
	spoil(p.clear())
	p.looks()
	p.sent(eliciting(13, 20))
	p.clear()
}
