package mtu_test

import (
	"testing"

	"caravel/mtu"
)

// What arrives is the size from then on; the ceiling stays.
func TestP19_3Acked(t *testing.T) {
	m := begin(t, 1200, 65527)
	for _, c := range [][2]int{{33364, 49446}, {49446, 57487}, {57487, 61507}, {61507, 63517}, {63517, 64522}, {64522, 65025}, {65025, 65276}, {65276, 65402}, {65402, 65465}, {65465, 65496}, {65496, 65512}, {65512, 0}} {
		arrives(t, m, c[0])
		is(t, m, c[0], c[1])
	}
	refuses(t, m, 0)
	refuses(t, m, 65512)
	refuses(t, m, 65520)
}

// Two losses of a probe change nothing that is told; behind the third it is given up.
func TestP19_3Lost(t *testing.T) {
	m := begin(t, 1200, 1500)
	for _, c := range [][2]int{{1350, 1275}, {1275, 1237}, {1237, 1218}, {1218, 0}} { // the ceilings are 1349, 1274, 1236, 1217
		loses(t, m, c[0], 1)
		is(t, m, 1200, c[0])
		loses(t, m, c[0], 1)
		is(t, m, 1200, c[0])
		loses(t, m, c[0], 1)
		is(t, m, 1200, c[1])
		refuses(t, m, c[0])
	}
	refuses(t, m, 0)
}

// An arrival begins the count anew.
func TestP19_3LostAckedLost(t *testing.T) {
	for before := range 3 {
		m := begin(t, 1200, 1500)
		loses(t, m, 1350, before)
		arrives(t, m, 1350)
		is(t, m, 1350, 1425)
		loses(t, m, 1425, 2)
		is(t, m, 1350, 1425)
		arrives(t, m, 1425)
		is(t, m, 1425, 1463)
		loses(t, m, 1463, 2)
		is(t, m, 1425, 1463)
		loses(t, m, 1463, 1)
		is(t, m, 1425, 1444)
	}
}

// So does a third loss.
func TestP19_3LostSixTimes(t *testing.T) {
	m := begin(t, 1200, 1500)
	loses(t, m, 1350, 3)
	loses(t, m, 1275, 2)
	is(t, m, 1200, 1275)
	arrives(t, m, 1275)
	is(t, m, 1275, 1312)
	loses(t, m, 1312, 2)
	is(t, m, 1275, 1312)
	loses(t, m, 1312, 1)
	is(t, m, 1275, 1293)
}

// And so does a hole, though the probe behind it may have the size of the one ahead of it.
func TestP19_3LostHoleLost(t *testing.T) {
	for before := range 3 {
		m := begin(t, 1200, 1500)
		arrives(t, m, 1350)
		loses(t, m, 1425, before)
		m.Hole()
		is(t, m, 1200, 1275)
		loses(t, m, 1275, 2)
		is(t, m, 1200, 1275)
		loses(t, m, 1275, 1)
		is(t, m, 1200, 1237)
	}
}

// What is refused does not count as a loss, and does not begin the count anew.
func TestP19_3RefusedBetween(t *testing.T) {
	m := begin(t, 1200, 1500)
	for n := range 3 {
		for range 5 {
			for _, size := range append(odd(), 1200, 1349, 1351, 1500) {
				refuses(t, m, size)
			}
		}
		is(t, m, 1200, 1350)
		loses(t, m, 1350, 1)
		if n < 2 {
			is(t, m, 1200, 1350)
		}
	}
	is(t, m, 1200, 1275)
}

// Just the probe's size is taken, of all sizes that could be: with a loss, and behind an arrival, too.
func TestP19_3EverySize(t *testing.T) {
	for _, most := range []int{1219, 1220, 1500, 1501, 65527} {
		for _, way := range []string{"", "l", "ll", "a", "al", "lll", "ah"} {
			p := newPair(t, 1200, most)
			for _, letter := range way {
				p.step(letter)
			}
			for size := -2000; size < 70000; size++ {
				if size != p.now() {
					refuses(t, p.s, size)
				}
			}
			for _, size := range odd() {
				refuses(t, p.s, size)
			}
			p.looks()
		}
	}
}

// Where the search does not go on nothing can be said of any size, however it came to its end.
func TestP19_3Ended(t *testing.T) {
	ended := map[string]*mtu.Mtu{
		"at once":      begin(t, 1200, 1219),
		"with no room": begin(t, 65527, 65527),
		"by a hole":    begin(t, 1200, 65527),
		"by arrivals":  begin(t, 1200, 1239),
		"by losses":    begin(t, 1200, 1239),
		"by both":      begin(t, 1200, 1500),
	}
	ended["by a hole"].Hole()
	arrives(t, ended["by arrivals"], 1220)
	loses(t, ended["by losses"], 1220, 3)
	arrives(t, ended["by both"], 1350)
	loses(t, ended["by both"], 1425, 3)
	arrives(t, ended["by both"], 1387)
	loses(t, ended["by both"], 1406, 3)
	sizes := map[string]int{"with no room": 65527, "by arrivals": 1220, "by both": 1387}
	for name, m := range ended {
		is(t, m, max(sizes[name], 1200), 0)
		for size := range 66000 {
			refuses(t, m, size)
		}
		for _, size := range append(odd(), 1209, 1210, 1219, 1220, 1397, 33364, 65527) {
			refuses(t, m, size)
		}
		is(t, m, max(sizes[name], 1200), 0)
	}
}

// A hole at once: the size less 1 is below base, so the ceiling is base, and the search is over.
func TestP19_3HoleAtOnce(t *testing.T) {
	for _, base := range []int{1200, 1337, 65527} {
		over := begin(t, base, base)
		for _, most := range []int{base, base + 19, base + 20, base + 300, 65527} {
			for lost := range 3 {
				p := newPair(t, base, min(most, 65527))
				for range lost {
					p.lost(p.now())
				}
				for range 3 {
					p.hole()
					is(t, p.s, base, 0)
					if *p.s != *over {
						t.Fatalf("behind a hole it is %+v, not %+v", *p.s, *over)
					}
				}
			}
		}
	}
}

// Behind an arrival the ceiling is the size less 1, which is above base by nine at least: no search comes closer.
func TestP19_3HoleBehindArrival(t *testing.T) {
	for _, c := range []struct{ most, first, then int }{
		{1220, 1210, 0}, {1221, 1211, 0}, {1238, 1219, 0}, {1239, 1220, 0}, {1240, 1220, 0}, // the ceilings are 1209, 1210, 1218, 1219 and 1219
		{1241, 1221, 1210}, {1242, 1221, 1210}, {1243, 1222, 1211}, {1245, 1223, 1211},
		{1500, 1350, 1275}, {1502, 1351, 1275}, {1503, 1352, 1276}, {65527, 33364, 17282},
	} {
		m := begin(t, 1200, c.most)
		arrives(t, m, c.first)
		m.Hole()
		is(t, m, 1200, c.then)
		m.Hole() // now the size is base
		is(t, m, 1200, 0)
	}
	for most := 1220; most <= 65527; most++ {
		m := begin(t, 1200, most)
		if arrives(t, m, now(m)); m.Size() < 1210 {
			t.Errorf("with most %d it comes to the size %d", most, m.Size())
		}
	}
}

// Behind three losses: of base the search is over, of more it goes on below.
func TestP19_3HoleBehindLosses(t *testing.T) {
	m := begin(t, 1200, 1500)
	loses(t, m, 1350, 3)
	is(t, m, 1200, 1275)
	m.Hole()
	is(t, m, 1200, 0)

	m = begin(t, 1200, 1500)
	arrives(t, m, 1350)
	loses(t, m, 1425, 3)
	m.Hole()
	is(t, m, 1200, 1275) // the ceiling is 1349
	arrives(t, m, 1275)
	is(t, m, 1275, 1312)
	m.Hole()
	is(t, m, 1200, 1237) // it is 1274
	loses(t, m, 1237, 3)
	is(t, m, 1200, 1218)
	arrives(t, m, 1218)
	m.Hole()
	is(t, m, 1200, 0) // it is 1217
}

// Behind a hole the search is as one that is new with the size less 1 as the most.
func TestP19_3HoleIsNew(t *testing.T) {
	for most := 1220; most < 2000; most++ {
		m := begin(t, 1200, most)
		arrives(t, m, now(m))
		if now(m) > 0 {
			loses(t, m, now(m), 2)
		}
		other := begin(t, 1200, m.Size()-1)
		m.Hole()
		if *m != *other {
			t.Fatalf("with most %d they are %+v and %+v", most, *m, *other)
		}
	}
}
