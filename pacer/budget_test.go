package pacer_test

import "testing"

type budgetCase struct {
	size, bytes, at  int // the pacer's
	now, window, rtt int
	want             int
}

func (c budgetCase) ask(t *testing.T) {
	t.Helper()
	p := with(t, c.size, c.bytes, c.at)
	before := *p
	budget(t, p, c.now, c.window, c.rtt, c.want)
	if *p != before {
		t.Fatalf("%v: something has changed", c)
	}
	budget(t, p, c.now, c.window, c.rtt, c.want)
	has(t, p, c.bytes, c.at)
}

// Behind its time, at it and ahead of it: nothing goes, and nothing comes in ahead of its time.
func TestP17_2Time(t *testing.T) {
	for _, c := range []budgetCase{
		{1200, 0, 1000, 0, 12000, 100000, 0},
		{1200, 0, 1000, 999, 12000, 100000, 0},
		{1200, 0, 1000, 1000, 12000, 100000, 0},
		{1200, 0, 1000, 1006, 12000, 100000, 0},
		{1200, 0, 1000, 1007, 12000, 100000, 1},
		{1200, 0, 1000, 5000, 12000, 100000, 600},
		{1200, 100, 7, 0, 4, 5, 100},
		{1200, 100, 7, 6, 4, 5, 100},
		{1200, 100, 7, 7, 4, 5, 100},
		{1200, 100, 7, 8, 4, 5, 101},
		{1200, 100, 7, 9, 4, 5, 102},
		{1200, 100, 7, 16, 4, 5, 109},
		{1200, 100, end, end - 1, 4, 5, 100},
		{1200, 100, end, 0, 4, 5, 100},
		{1200, 100, end, end, 4, 5, 100},
		{1200, 100, end, end + 1, 4, 5, 101},
		{1200, 100, end, huge, 0, 5, 100},
	} {
		c.ask(t)
	}
}

// It is never beyond the burst.
func TestP17_2Burst(t *testing.T) {
	for _, c := range []budgetCase{
		{1200, 0, 1000, 80999, 12000, 100000, 11999},
		{1200, 0, 1000, 81000, 12000, 100000, 12000},
		{1200, 0, 1000, 81001, 12000, 100000, 12000},
		{1200, 0, 1000, 81007, 12000, 100000, 12000},
		{1200, 0, 1000, 1000000000, 12000, 100000, 12000},
		{1200, 11998, 0, 1, 4, 5, 11999},
		{1200, 11998, 0, 2, 4, 5, 12000},
		{1200, 11998, 0, 3, 4, 5, 12000},
		{1200, 11999, 0, 1, 4, 5, 12000},
		{1200, 12000, 0, 0, 4, 5, 12000},
		{1200, 12000, 0, 1, 4, 5, 12000},
		{65535, 0, 0, 655349, 4, 5, 655349},
		{65535, 0, 0, 655350, 4, 5, 655350},
		{65535, 0, 0, 655351, 4, 5, 655350},
		{65535, 655350, 0, huge, huge, 0, 655350},
		{65535, 0, 0, huge, huge, 0, 655350},
		{65535, 0, end, huge, huge, 1, 655350},
		{1200, 0, 0, most, most, 1, 12000},
	} {
		c.ask(t)
	}
}

// An rtt of 0 counts as 1, one above MaxTime as that.
func TestP17_2Rtt(t *testing.T) {
	for _, c := range []budgetCase{
		{65535, 5, 0, 9, 3, 0, 38},
		{65535, 5, 0, 9, 3, 1, 38},
		{65535, 5, 0, 9, 3, 2, 21},
		{65535, 5, 0, 9, 3, 3, 16},
		{65535, 0, 0, 154320573, 29183404, end - 2, 5}, // their product is four times MaxTime - 1
		{65535, 0, 0, 154320573, 29183404, end - 1, 5},
		{65535, 0, 0, 154320573, 29183404, end, 4},
		{65535, 0, 0, 154320573, 29183404, end + 1, 4},
		{65535, 0, 0, most, most, end - 1, 1280},
		{65535, 0, 0, most, most, end, 1280},
		{65535, 0, 0, most, most, end + 1, 1280},
		{65535, 0, 0, most, most, 2 * end, 1280},
		{65535, 0, 0, huge, huge, huge, 1280},
		{65535, 0, end, huge, huge, huge, 1280},
	} {
		c.ask(t)
	}
}

// A window of 0 brings nothing, one above 2^30 as much as that.
func TestP17_2Window(t *testing.T) {
	for _, c := range []budgetCase{
		{1200, 0, 0, 7, 0, 7, 0},
		{1200, 0, 0, 7, 1, 7, 1},
		{1200, 0, 0, 7, 2, 7, 2},
		{1200, 0, 0, 7, 3, 7, 3},
		{1200, 0, 0, 7, 4, 7, 5},
		{1200, 0, 0, 7, 5, 7, 6},
		{1200, 0, 0, 7, 9, 7, 11},
		{1200, 77, 0, huge, 0, 0, 77},
		{65535, 0, 0, 1, most - 1, 5120, 262143},
		{65535, 0, 0, 1, most, 5120, 262144},
		{65535, 0, 0, 1, most + 1, 5120, 262144},
		{65535, 0, 0, 1, 2 * most, 5120, 262144},
		{65535, 0, 0, 1, huge, 5120, 262144},
		{65535, 0, 0, 4, most - 1, 13325, 402904},
		{65535, 0, 0, 4, most, 13325, 402904},
		{65535, 0, 0, 4, most + 1, 13325, 402904}, // five such windows are 402905 times the rtt
		{65535, 0, 0, 4, huge, 13325, 402904},
	} {
		c.ask(t)
	}
}

// What comes in in more than 2^30 microseconds is what comes in in these.
func TestP17_2Since(t *testing.T) {
	for _, c := range []budgetCase{
		{65535, 1, 0, most - 1, 4, 40960, 131072},
		{65535, 1, 0, most, 4, 40960, 131073},
		{65535, 1, 0, most + 1, 4, 40960, 131073},
		{65535, 1, 0, 2 * most, 4, 40960, 131073},
		{65535, 1, 0, end, 4, 40960, 131073},
		{65535, 1, 0, huge, 4, 40960, 131073},
		{65535, 1, end, end + most - 1, 4, 40960, 131072},
		{65535, 1, end, end + most, 4, 40960, 131073},
		{65535, 1, end, end + most + 1, 4, 40960, 131073},
		{65535, 1, end, huge, 4, 40960, 131073},
		{65535, 0, 0, most, 4, 13325, 402904},
		{65535, 0, 0, most + 1, 4, 13325, 402904}, // so many would bring 402905
		{65535, 0, end, end + most + 1, 4, 13325, 402904},
	} {
		c.ask(t)
	}
}

// Below 0 is nothing, even of a full one.
func TestP17_2Below(t *testing.T) {
	for _, bytes := range []int{0, 1, 12000} {
		for _, n := range []int{low, low + 1, -end, -most, -2, -1} {
			for _, c := range []budgetCase{
				{1200, bytes, 3, n, 12000, 100000, 0},
				{1200, bytes, 3, 10000, n, 100000, 0},
				{1200, bytes, 3, 10000, 12000, n, 0},
				{1200, bytes, 3, n, n, n, 0},
				{1200, bytes, 3, 3, n, 0, 0},
				{1200, bytes, 3, 0, 0, n, 0},
				{1200, bytes, end, huge, n, huge, 0},
				{1200, bytes, end, huge, huge, n, 0},
			} {
				c.ask(t)
			}
		}
	}
	for _, c := range []budgetCase{ // none of them is
		{1200, 9, 3, 0, 0, 0, 9},
		{1200, 9, 3, 3, 0, 0, 9},
		{1200, 9, 3, 4, 1, 0, 10},
	} {
		c.ask(t)
	}
}
