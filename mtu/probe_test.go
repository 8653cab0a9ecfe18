package mtu_test

import "testing"

// A new one: its size is base, and its probe lies in the middle, if there is room.
func TestP19_2New(t *testing.T) {
	for _, c := range []struct{ base, most, probe int }{
		{1200, 1200, 0}, {1200, 1201, 0}, {1200, 1210, 0}, {1200, 1218, 0}, {1200, 1219, 0},
		{1200, 1220, 1210}, {1200, 1221, 1211}, {1200, 1222, 1211}, {1200, 1223, 1212},
		{1201, 1219, 0}, {1201, 1220, 0}, {1201, 1221, 1211}, {1201, 1222, 1212}, {1201, 1223, 1212},
		{1200, 1500, 1350}, {1200, 1501, 1351}, {1201, 1500, 1351}, {1201, 1501, 1351},
		{1200, 65526, 33363}, {1200, 65527, 33364}, {1201, 65527, 33364},
		{65506, 65527, 65517}, {65507, 65527, 65517}, {65508, 65527, 0}, {65527, 65527, 0},
	} {
		is(t, begin(t, c.base, c.most), c.base, c.probe)
	}
}

// Each ceiling above few bases, and each base below the greatest ceiling.
func TestP19_2EveryNew(t *testing.T) {
	for _, base := range []int{1200, 1201, 1337, 40000, 65500} {
		for most := base; most <= 65527; most++ {
			newPair(t, base, most)
		}
	}
	for base := 1200; base <= 65527; base++ {
		newPair(t, base, 65527)
		for above := range 23 {
			if base+above <= 65527 {
				newPair(t, base, base+above)
			}
		}
	}
}

// The ceiling 19, 20 and 21 above the size, behind an arrival, behind losses, and behind a hole.
func TestP19_2Close(t *testing.T) {
	for above, probe := range map[int]int{18: 0, 19: 0, 20: 10, 21: 11, 22: 11} {
		then := func(size int) int {
			if probe == 0 {
				return 0
			}
			return size + probe
		}
		for odd := range 2 {
			first := 1200 + above + odd
			m := begin(t, 1200, first+above)
			arrives(t, m, first)
			is(t, m, first, then(first))
		}
		for odd := range 2 {
			m := begin(t, 1200, 1201+2*above+odd) // its probe is one more than what the ceiling is to be
			loses(t, m, 1201+above, 2)
			is(t, m, 1200, 1201+above)
			loses(t, m, 1201+above, 1)
			is(t, m, 1200, then(1200))

			m = begin(t, 1200, 1201+2*above+odd)
			arrives(t, m, 1201+above)
			m.Hole()
			is(t, m, 1200, then(1200))
		}
	}
}

// Behind an arrival: the probe of what is left, odd and even.
func TestP19_2BehindArrivals(t *testing.T) {
	for _, c := range []struct{ most, first, then int }{
		{1237, 1219, 0}, {1238, 1219, 0}, {1239, 1220, 0}, {1240, 1220, 1230}, {1241, 1221, 1231}, {1242, 1221, 1232}, {1243, 1222, 1233}, {1244, 1222, 1233},
		{1500, 1350, 1425}, {1501, 1351, 1426}, {1502, 1351, 1427}, {1503, 1352, 1428},
		{65526, 33363, 49445}, {65527, 33364, 49446},
	} {
		m := begin(t, 1200, c.most)
		is(t, m, 1200, c.first)
		arrives(t, m, c.first)
		is(t, m, c.first, c.then)
	}
}

// Looking changes nothing.
func TestP19_2Looks(t *testing.T) {
	for _, most := range []int{1200, 1219, 1220, 1500, 65527} {
		m := begin(t, 1200, most)
		before := *m
		for range 9 {
			m.Size()
			m.Probe()
		}
		if *m != before {
			t.Errorf("with most %d a look changed something", most)
		}
	}
}
