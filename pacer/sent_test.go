package pacer_test

import (
	"testing"

	"caravel/api"
)

type sentCase struct {
	bytes, now, window, rtt int
	left, at                int // what it has then
}

// Of a pacer with 1000 bytes at 50: a byte comes in each microsecond.
func TestP17_3Sent(t *testing.T) {
	for _, c := range []sentCase{
		// at its time
		{0, 50, 4, 5, 1000, 50},
		{1, 50, 4, 5, 999, 50},
		{999, 50, 4, 5, 1, 50},
		{1000, 50, 4, 5, 0, 50},
		{1001, 50, 4, 5, 0, 50},
		{12000, 50, 4, 5, 0, 50},
		{12001, 50, 4, 5, 0, 50},
		{huge, 50, 4, 5, 0, 50},
		// ahead of it: its time does not go back, and nothing goes or comes in for that
		{0, 49, 4, 5, 1000, 50},
		{0, 0, 4, 5, 1000, 50},
		{0, 0, huge, 0, 1000, 50},
		{1, 49, 4, 5, 999, 50},
		{400, 0, 4, 5, 600, 50},
		{1000, 0, 4, 5, 0, 50},
		{1001, 49, 4, 5, 0, 50},
		{huge, 0, 4, 5, 0, 50},
		// behind it
		{0, 51, 4, 5, 1001, 51},
		{0, 60, 4, 5, 1010, 60},
		{1, 60, 4, 5, 1009, 60},
		{1009, 60, 4, 5, 1, 60},
		{1010, 60, 4, 5, 0, 60},
		{1011, 60, 4, 5, 0, 60},
		{huge, 60, 4, 5, 0, 60},
		{0, 11049, 4, 5, 11999, 11049},
		{0, 11050, 4, 5, 12000, 11050},
		{0, 11051, 4, 5, 12000, 11051},
		{7, 20000, 4, 5, 11993, 20000},
		{12000, 20000, 4, 5, 0, 20000},
		{12001, 20000, 4, 5, 0, 20000},
		{7, end - 1, 4, 5, 11993, end - 1},
		{7, end, 4, 5, 11993, end},
		// other rates: what is left over by the rounding is gone
		{0, 57, 0, 5, 1000, 57},
		{1, end, 0, 0, 999, end},
		{0, 57, 3, 7, 1003, 57},
		{0, 57, 9, 0, 1078, 57},
		{0, 57, 9, 1, 1078, 57},
		{0, 57, 9, 2, 1039, 57},
		{5, 57, huge, huge, 995, 57},
		{5, end, huge, huge, 2275, end},
		{5, end, huge, 0, 11995, end},
	} {
		p := with(t, 1200, 1000, 50)
		had := p.Budget(c.now, c.window, c.rtt)
		sends(t, p, c.bytes, c.now, c.window, c.rtt)
		has(t, p, c.left, c.at)
		if want := max(had-min(c.bytes, had), 0); c.left != want {
			t.Fatalf("%v: left of %d are not %d", c, had, want)
		}
		budget(t, p, c.at, c.window, c.rtt, c.left)
	}
}

// What comes in is counted from the last time on, not from the first: what was left over by the rounding is not kept.
func TestP17_3Row(t *testing.T) {
	p := with(t, 1200, 0, 0)
	for now := 1; now <= 100; now++ { // three quarters of a byte come in each microsecond
		sends(t, p, 0, now, 3, 5)
		has(t, p, 0, now)
	}
	sends(t, p, 0, 102, 3, 5)
	has(t, p, 1, 102)
	sends(t, p, 0, 106, 3, 5)
	has(t, p, 4, 106)
	sends(t, p, 2, 90, 3, 5)
	has(t, p, 2, 106)
	sends(t, p, 1, 110, 3, 5)
	has(t, p, 4, 110)
	sends(t, p, 5, 111, 3, 5)
	has(t, p, 0, 111)
	budget(t, p, 115, 3, 5, 3)
}

var wrongSent = []struct{ bytes, now, window, rtt int }{
	{-1, 60, 4, 5}, {low, 60, 4, 5}, {-12000, 60, 4, 5}, {-1, 50, 4, 5}, {-1, 0, 0, 0},
	{1, -1, 4, 5}, {1, low, 4, 5}, {0, -end, 4, 5}, {0, -1, 0, 0},
	{1, end + 1, 4, 5}, {1, end + 2, 4, 5}, {0, end + 1, 0, 0}, {1, 2 * end, 4, 5}, {1, huge, 4, 5},
	{1, 60, -1, 5}, {1, 60, low, 5}, {0, 50, -1, 0}, {0, 60, -most, 5},
	{1, 60, 4, -1}, {1, 60, 4, low}, {0, 50, 0, -1}, {0, 60, 4, -end},
	{-1, -1, -1, -1}, {low, low, low, low}, {-1, huge, -1, -1}, {huge, huge, huge, huge}, {huge, -1, huge, huge},
}

// What may not be changes nothing.
func TestP17_3Wrong(t *testing.T) {
	for _, bytes := range []int{0, 1000, 12000} {
		for _, at := range []int{0, 50, end} {
			p := with(t, 1200, bytes, at)
			before := *p
			for _, c := range wrongSent {
				if e := p.Sent(c.bytes, c.now, c.window, c.rtt); e != api.ErrArg {
					t.Errorf("Sent(%v) = %d", c, int(e))
				}
				if *p != before {
					t.Fatalf("Sent(%v) changed something", c)
				}
			}
			has(t, p, bytes, at)
		}
	}
}

// The least and the greatest that may be are taken.
func TestP17_3Bounds(t *testing.T) {
	for _, c := range []sentCase{
		{0, 0, 0, 0, 12000, 0},
		{1, 0, 0, 0, 11999, 0},
		{huge, 0, 0, 0, 0, 0},
		{1, 1, 0, 0, 11999, 1},
		{1, 0, huge, 0, 11999, 0},
		{1, 0, 0, huge, 11999, 0},
		{1, end - 1, 0, 0, 11999, end - 1},
		{1, end, 0, 0, 11999, end},
		{1, end, huge, huge, 11999, end},
		{huge, end, huge, huge, 0, end},
	} {
		p := begin(t, 1200)
		sends(t, p, c.bytes, c.now, c.window, c.rtt)
		has(t, p, c.left, c.at)
	}
}
