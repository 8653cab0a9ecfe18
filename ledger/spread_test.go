package ledger_test

import (
	"slices"
	"testing"

	"caravel/api"
	"caravel/ledger"
)

// step is a call of a row: an acknowledgement, or (without spans) time that passes. What is lost by it, and how far that is spread.
type step struct {
	spans     []api.Span
	now, late int
	lost      []int
	spread    int
}

// Packets 0 to 11 are sent at squares: 0, 1, 4, 9, 16, 25, 36, 49, 64, 81, 100, 121, so that each difference tells between which two it lies.
func TestP15_2Spread(t *testing.T) {
	for _, c := range []struct {
		name  string
		quiet []int
		steps []step
	}{
		{"none is lost", nil, []step{{spans(1, 1), 121, end, nil, 0}}},
		{"one is lost", nil, []step{{spans(3, 3), 121, end, []int{0}, 0}}},
		{"two are lost", nil, []step{{spans(4, 4), 121, end, []int{0, 1}, 1}}},
		{"many are lost", nil, []step{{spans(11, 11), 121, end, []int{0, 1, 2, 3, 4, 5, 6, 7, 8}, 64}}},
		{"all are quiet", []int{0, 1, 2, 3, 4, 5, 6, 7, 8}, []step{{spans(11, 11), 121, end, []int{0, 1, 2, 3, 4, 5, 6, 7, 8}, 0}}},
		{"all but one are quiet", []int{0, 1, 2, 4, 5, 6, 7, 8}, []step{{spans(11, 11), 121, end, []int{0, 1, 2, 3, 4, 5, 6, 7, 8}, 0}}},
		{"quiet ones at both ends", []int{0, 1, 7, 8}, []step{{spans(11, 11), 121, end, []int{0, 1, 2, 3, 4, 5, 6, 7, 8}, 36 - 4}}},
		{"quiet ones between", []int{1, 2, 3, 4, 5, 6, 7}, []step{{spans(11, 11), 121, end, []int{0, 1, 2, 3, 4, 5, 6, 7, 8}, 64}}},
		{"every other is quiet", []int{0, 2, 4, 6, 8}, []step{{spans(11, 11), 121, end, []int{0, 1, 2, 3, 4, 5, 6, 7, 8}, 49 - 1}}},
		{"one arrived between, by this call: the later ones", nil, []step{{spans(11, 11, 4, 4), 121, end, []int{0, 1, 2, 3, 5, 6, 7, 8}, 64 - 25}}},
		{"one arrived between, by this call: the earlier ones", nil, []step{{spans(11, 11, 7, 7), 121, end, []int{0, 1, 2, 3, 4, 5, 6, 8}, 36}}},
		{"several arrived between", nil, []step{{spans(11, 11, 6, 6, 2, 3), 121, end, []int{0, 1, 4, 5, 7, 8}, 15}}},
		{"a quiet one arrived between", []int{4}, []step{{spans(11, 11, 4, 4), 121, end, []int{0, 1, 2, 3, 5, 6, 7, 8}, 64 - 25}}},
		{"one arrived between any two", nil, []step{{spans(11, 11, 7, 7, 5, 5, 3, 3, 1, 1), 121, end, []int{0, 2, 4, 6, 8}, 0}}},
		{"one arrived between the two that elicit", []int{1, 2, 4, 5, 6, 7, 8}, []step{{spans(11, 11, 2, 2), 121, end, []int{0, 1, 3, 4, 5, 6, 7, 8}, 0}}},
		{"quiet ones, then one that arrived, then eliciting ones", []int{0, 1, 2}, []step{{spans(11, 11, 3, 3), 121, end, []int{0, 1, 2, 4, 5, 6, 7, 8}, 64 - 16}}},
		{"eliciting ones, then one that arrived, then quiet ones", []int{4, 5, 6, 7, 8}, []step{{spans(11, 11, 3, 3), 121, end, []int{0, 1, 2, 4, 5, 6, 7, 8}, 4}}},
		{"what arrived stands at both ends", nil, []step{{spans(11, 11, 8, 9, 0, 1), 121, end, []int{2, 3, 4, 5, 6, 7}, 49 - 4}}},
		{"one arrived between, by an earlier call", nil, []step{
			{spans(2, 2), 121, end, nil, 0},
			{spans(11, 11), 121, end, []int{0, 1, 3, 4, 5, 6, 7, 8}, 64 - 9},
		}},
		{"some were lost by an earlier call", nil, []step{
			{spans(4, 4), 121, end, []int{0, 1}, 1},
			{spans(11, 11), 121, end, []int{2, 3, 5, 6, 7, 8}, 64 - 25},
		}},
		{"those that were lost earlier do not count", nil, []step{
			{spans(5, 5), 121, end, []int{0, 1, 2}, 4},
			{spans(8, 8), 121, end, []int{3, 4}, 16 - 9},
			{spans(10, 10), 121, end, []int{6, 7}, 49 - 36},
		}},
		{"arrived by an earlier and by this call", nil, []step{
			{spans(2, 2), 121, end, nil, 0},
			{spans(11, 11, 5, 5), 121, end, []int{0, 1, 3, 4, 6, 7, 8}, 64 - 36},
		}},
		{"lost ones that arrive late part nothing", nil, []step{
			{spans(5, 5), 121, end, []int{0, 1, 2}, 4},
			{spans(0, 2), 121, end, nil, 0},
			{spans(8, 8), 121, end, []int{3, 4}, 16 - 9},
		}},
		{"by the time", nil, []step{
			{spans(2, 2), 121, end, nil, 0},
			{nil, 122, 121, []int{0, 1}, 1},
		}},
		{"by the time, one by one", nil, []step{
			{spans(2, 2), 121, end, nil, 0},
			{nil, 121, 121, []int{0}, 0},
			{nil, 122, 121, []int{1}, 0},
		}},
		{"by the time, one arrived between", nil, []step{
			{spans(1, 1), 121, end, nil, 0},
			{spans(3, 3), 121, 100, []int{0, 2}, 0},
		}},
		{"by the time, one arrived between by this call", nil, []step{{spans(3, 3, 1, 1), 121, 0, []int{0, 2}, 0}}},
		{"by the time and by numbers", nil, []step{{spans(4, 4), 121, 117, []int{0, 1, 2}, 4}}},
	} {
		l := begin(t)
		for i := range 12 {
			sends(t, l, ledger.Packet{Number: i, At: i * i, Size: 100, Eliciting: !slices.Contains(c.quiet, i)})
		}
		for i, s := range c.steps {
			r, e := l.Acked(s.spans, s.now, s.late)
			if s.spans == nil {
				r, e = l.Passed(s.now, s.late)
			}
			if e != api.OK || !slices.Equal(numbers(r.Lost), s.lost) || r.Spread != s.spread {
				t.Errorf("%s: step %d: %v, %d", c.name, i, r, int(e))
			}
		}
	}
}

// Numbers that were never sent part nothing; those that lie far apart neither.
func TestP15_2SpreadLeftOut(t *testing.T) {
	l := begin(t)
	sends(t, l, eliciting(3, 0), eliciting(5, 10), quiet(1<<40, 30), eliciting(top-5, 70), eliciting(top, 200))
	acks(t, l, spans(top, top), 200, end, came{acked: []int{top}, lost: []int{3, 5, 1 << 40, top - 5}, spread: 70})
	l = begin(t)
	sends(t, l, eliciting(3, 0), eliciting(5, 10), quiet(1<<40, 30), eliciting(top-5, 70), eliciting(top, 200))
	acks(t, l, spans(top, top, 1<<40, 1<<40), 200, end, came{acked: []int{1 << 40, top}, lost: []int{3, 5, top - 5}, spread: 10})
}

// What was cleared is neither lost nor arrived.
func TestP15_2SpreadCleared(t *testing.T) {
	l := begin(t)
	sends(t, l, eliciting(0, 0), eliciting(1, 5))
	clears(t, l, 0, 1)
	sends(t, l, eliciting(2, 10), eliciting(3, 30), eliciting(4, 70), eliciting(9, 80))
	acks(t, l, spans(0, 1), 90, 90, came{sample: none})
	acks(t, l, spans(9, 9, 0, 1), 90, 90, came{acked: []int{9}, lost: []int{2, 3, 4}, sample: 10, spread: 60})
}

// At the edges of times.
func TestP15_2SpreadGreatest(t *testing.T) {
	l := begin(t)
	sends(t, l, eliciting(0, 0), eliciting(1, 0), eliciting(2, end), eliciting(5, end))
	acks(t, l, spans(5, 5), end, end, came{acked: []int{5}, lost: []int{0, 1, 2}, spread: end})
	l = begin(t)
	sends(t, l, eliciting(0, 7), eliciting(1, 7), eliciting(2, 7), eliciting(5, 7))
	acks(t, l, spans(5, 5), 7, end, came{acked: []int{5}, lost: []int{0, 1, 2}})
}
