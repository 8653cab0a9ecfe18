package pacer_test

import (
	"testing"

	"caravel/api"
)

type whenCase struct {
	size, has, at      int // the pacer's
	bytes, window, rtt int
	want               int
}

func (c whenCase) ask(t *testing.T) {
	t.Helper()
	p := with(t, c.size, c.has, c.at)
	before := *p
	when(t, p, c.bytes, c.window, c.rtt, c.want)
	if *p != before {
		t.Fatalf("%v: something has changed", c)
	}
	when(t, p, c.bytes, c.window, c.rtt, c.want)
	has(t, p, c.has, c.at)
}

// As many as it has may be sent from its time on, more have to come in, as many as lack.
func TestP17_4Bytes(t *testing.T) {
	for _, c := range []whenCase{
		{1200, 1000, 50, 0, 4, 9, 50},
		{1200, 1000, 50, 1, 4, 9, 50},
		{1200, 1000, 50, 999, 4, 9, 50},
		{1200, 1000, 50, 1000, 4, 9, 50},
		{1200, 1000, 50, 1001, 4, 9, 52},
		{1200, 1000, 50, 1002, 4, 9, 54},
		{1200, 1000, 50, 1003, 4, 9, 56},
		{1200, 1000, 50, 1004, 4, 9, 58},
		{1200, 1000, 50, 1005, 4, 9, 59}, // nothing is left over
		{1200, 1000, 50, 1006, 4, 9, 61},
		{1200, 1000, 50, 1009, 4, 9, 67},
		{1200, 1000, 50, 1010, 4, 9, 68}, // here neither
		{1200, 1000, 50, 11999, 4, 9, 19849},
		{1200, 1000, 50, 12000, 4, 9, 19850},
		{1200, 1000, 50, 1001, 4, 5, 51},
		{1200, 1000, 50, 1002, 4, 5, 52},
		{1200, 1000, 50, 12000, 4, 5, 11050},
		{1200, 0, 0, 0, 4, 5, 0},
		{1200, 0, 0, 1, 4, 5, 1},
		{1200, 0, end, 0, 4, 5, end},
		{1200, 0, end, 1, 4, 5, end + 1},
		{1200, 12000, 7, 12000, 4, 5, 7},
		{1200, 11999, 7, 12000, 4, 5, 8},
		{65535, 0, 0, 655350, 4, 5, 655350},
	} {
		c.ask(t)
	}
}

func TestP17_4Window(t *testing.T) {
	for _, c := range []whenCase{
		{1200, 1000, 50, 1007, 1, 5, 78},
		{1200, 1000, 50, 1007, 2, 5, 64},
		{1200, 1000, 50, 1007, 3, 5, 60},
		{1200, 1000, 50, 1007, 4, 5, 57},
		{1200, 1000, 50, 1007, 5, 5, 56},
		{1200, 1000, 50, 1007, 6, 5, 55},
		{1200, 1000, 50, 1007, 27, 5, 52},
		{1200, 1000, 50, 1007, 28, 5, 51},
		{1200, 1000, 50, 1007, 7000, 5, 51},
		{1200, 1000, 50, 1007, huge, 0, 51},
		{65535, 0, 0, 655350, most - 1, end, 549747425792},
		{65535, 0, 0, 655350, most, end, 549747425280},
		{65535, 0, 0, 655350, most + 1, end, 549747425280},
		{65535, 0, 0, 655350, 2 * most, end, 549747425280},
		{65535, 0, 0, 655350, huge, end, 549747425280},
		{65535, 0, 0, 655350, huge, huge, 549747425280},
	} {
		c.ask(t)
	}
}

func TestP17_4Rtt(t *testing.T) {
	for _, c := range []whenCase{
		{1200, 1000, 50, 1007, 3, 0, 52},
		{1200, 1000, 50, 1007, 3, 1, 52},
		{1200, 1000, 50, 1007, 3, 2, 54},
		{1200, 1000, 50, 1007, 3, 3, 56},
		{1200, 1000, 50, 1007, 3, 4, 58},
		{1200, 1000, 50, 1007, 3, 5, 60},
		{1200, 1000, 50, 1007, 3, 1000, 1917},
		{65535, 0, end, 655350, 4096, 0, end + 128},
		{65535, 0, end, 655350, 4096, 1, end + 128},
		{65535, 0, end, 655350, 4096, 2, end + 256},
		{65535, 0, end, 655350, 4096, end - 1, 145238888959442817},
		{65535, 0, end, 655350, 4096, end, 145238888959442944},
		{65535, 0, end, 655350, 4096, end + 1, 145238888959442944},
		{65535, 0, end, 655350, 4096, 2 * end, 145238888959442944},
		{65535, 0, end, 655350, 4096, huge, 145238888959442944},
	} {
		c.ask(t)
	}
}

// A wait is at most 2^60, which its time comes to.
func TestP17_4Longest(t *testing.T) {
	for _, at := range []int{0, 1, 50, end} {
		for _, c := range []whenCase{
			{65535, 0, at, 1279, 1, end, at + 1152020784681372877},
			{65535, 0, at, 1280, 1, end - 1, at + long - 1024},
			{65535, 0, at, 1280, 1, end, at + long},
			{65535, 0, at, 1280, 1, end + 1, at + long},
			{65535, 0, at, 1281, 1, end, at + long},
			{65535, 7, at, 1287, 1, end, at + long},
			{65535, 7, at, 1286, 1, end, at + 1152020784681372877},
			{65535, 0, at, 2027, 1, 710977740877434, at + long - 1},
			{65535, 0, at, 2693, 2, 1070294749913523, at + long}, // something is left over
			{65535, 0, at, 5081, 2, 567270962707561, at + long},  // it would be one more
			{65535, 0, at, 655350, 1, end, at + long},
			{65535, 0, at, 655350, 1, huge, at + long},
			{65535, 0, at, 655350, 2, huge, at + long},
			{65535, 0, at, 655350, 511, huge, at + long},
			{65535, 0, at, 655350, 512, huge, at + 1152903912420802560},
			{1200, 0, at, 12000, 1, end, at + long},
			{1200, 0, at, 12000, 9, huge, at + long},
			{1200, 0, at, 12000, 10, huge, at + 1080863910568919040},
		} {
			c.ask(t)
		}
	}
}

// With a window of 0 nothing comes in: as many as there are may be sent at its time, more never.
func TestP17_4NoWindow(t *testing.T) {
	for _, rtt := range []int{0, 1, 5, end, end + 1, huge} {
		p := with(t, 1200, 1000, 50)
		when(t, p, 0, 0, rtt, 50)
		when(t, p, 999, 0, rtt, 50)
		when(t, p, 1000, 0, rtt, 50)
		refuses(t, p, 1001, 0, rtt, api.ErrNone)
		refuses(t, p, 11999, 0, rtt, api.ErrNone)
		refuses(t, p, 12000, 0, rtt, api.ErrNone)
		refuses(t, p, 12001, 0, rtt, api.ErrBig)
		when(t, with(t, 1200, 12000, 50), 12000, 0, rtt, 50)
		empty := with(t, 1200, 0, 50)
		when(t, empty, 0, 0, rtt, 50)
		refuses(t, empty, 1, 0, rtt, api.ErrNone)
	}
}

// What is below 0 is told ahead of what is too much, and that ahead of what never comes.
func TestP17_4Wrong(t *testing.T) {
	for _, bytes := range []int{0, 1000, 12000} {
		p := with(t, 1200, bytes, 50)
		for _, n := range []int{low, -end, -most, -12000, -1} {
			refuses(t, p, n, 4, 5, api.ErrArg)
			refuses(t, p, n, 0, 5, api.ErrArg)
			refuses(t, p, 0, n, 5, api.ErrArg)
			refuses(t, p, 12000, n, 5, api.ErrArg)
			refuses(t, p, 0, 4, n, api.ErrArg)
			refuses(t, p, 12000, 4, n, api.ErrArg)
			refuses(t, p, 12000, 0, n, api.ErrArg)
			refuses(t, p, 12001, n, 5, api.ErrArg)
			refuses(t, p, 12001, 4, n, api.ErrArg)
			refuses(t, p, 12001, 0, n, api.ErrArg)
			refuses(t, p, huge, n, n, api.ErrArg)
			refuses(t, p, n, n, n, api.ErrArg)
			refuses(t, p, n, huge, huge, api.ErrArg)
		}
		for _, n := range []int{12001, 12002, 655350, most, huge} {
			refuses(t, p, n, 4, 5, api.ErrBig)
			refuses(t, p, n, 0, 5, api.ErrBig)
			refuses(t, p, n, 0, 0, api.ErrBig)
			refuses(t, p, n, huge, huge, api.ErrBig)
		}
	}
	p := begin(t, 65535)
	when(t, p, 655350, 0, 0, 0)
	refuses(t, p, 655351, 0, 0, api.ErrBig)
	refuses(t, p, 655351, 1, 0, api.ErrBig)
}
