package mtu_test

import (
	"testing"

	"caravel/api"
	"caravel/mtu"
)

// The chapter's example.
func TestP19_4Example(t *testing.T) {
	m := begin(t, 1200, 1500)
	is(t, m, 1200, 1350)
	arrives(t, m, 1350)
	is(t, m, 1350, 1425)
	loses(t, m, 1425, 3)
	is(t, m, 1350, 1387)
	m.Hole()
	is(t, m, 1200, 1275)
	arrives(t, m, 1275) // the ceiling is 1349
	is(t, m, 1275, 1312)
	arrives(t, m, 1312)
	is(t, m, 1312, 1331)
	arrives(t, m, 1331)
	is(t, m, 1331, 0)
}

// What may be: each bound of base and of most, and what is just within.
func TestP19_1Bounds(t *testing.T) {
	for _, pair := range [][2]int{
		{1200, 1200}, {1200, 1201}, {1200, 1500}, {1200, 65526}, {1200, 65527}, {1201, 1201}, {1201, 65527},
		{1280, 1472}, {9000, 9000}, {65526, 65526}, {65526, 65527}, {65527, 65527},
	} {
		newPair(t, pair[0], pair[1]).looks()
	}
}

// What may not be.
func TestP19_1Wrong(t *testing.T) {
	refusesNew := func(base, most int) {
		if m, e := mtu.New(base, most); m != nil || e != api.ErrArg {
			t.Errorf("New(%d, %d) = %v, %d", base, most, m, int(e))
		}
	}
	for _, base := range []int{low, low + 1, -65527, -1200, -1, 0, 1, 20, 1198, 1199, 65528, 65529, 1<<16 + 1200, 1<<32 + 1200, 1<<62 + 1200, huge - 1, huge} {
		for _, most := range []int{low, -1, 0, 1199, 1200, 1500, 65527, 65528, base - 1, base, base + 1, huge} {
			refusesNew(base, most)
		}
	}
	for _, base := range []int{1200, 1201, 1500, 65526, 65527} {
		for _, most := range []int{low, low + 1, -base, -1, 0, 1, 1199, base - 2, base - 1, 65528, 65529, 1<<16 + base, 1<<32 + base, 1<<62 + base, huge - 1, huge} {
			refusesNew(base, most)
		}
	}
}

// Near each bound every pair is one or the other.
func TestP19_1Near(t *testing.T) {
	near := []int{1197, 1198, 1199, 1200, 1201, 1202, 1203, 65524, 65525, 65526, 65527, 65528, 65529, 65530}
	for _, base := range near {
		for _, most := range near {
			want := api.OK
			if base < 1200 || base > 65527 || most < base || most > 65527 {
				want = api.ErrArg
			}
			if m, e := mtu.New(base, most); e != want || (m != nil) != (want == api.OK) {
				t.Errorf("New(%d, %d) = %v, %d, not %d", base, most, m, int(e), int(want))
			}
		}
	}
}

// What becomes of one search is nothing to another.
func TestP19_1Apart(t *testing.T) {
	a, b := begin(t, 1200, 1500), begin(t, 1200, 1500)
	arrives(t, a, 1350)
	is(t, b, 1200, 1350)
	loses(t, b, 1350, 3)
	is(t, b, 1200, 1275)
	is(t, a, 1350, 1425)
	b.Hole()
	is(t, b, 1200, 0)
	is(t, a, 1350, 1425)
	is(t, begin(t, 1200, 1500), 1200, 1350)
}

// Of a search that is nil, or that no call made, nothing is told, and nothing is done, whatever comes.
func TestP19_3None(t *testing.T) {
	var plain mtu.Mtu
	for _, m := range []*mtu.Mtu{nil, &plain, {}, new(mtu.Mtu)} {
		for range 4 {
			if size := m.Size(); size != 0 {
				t.Errorf("Size = %d", size)
			}
			if size, ok := m.Probe(); size != 0 || ok {
				t.Errorf("Probe = %d, %v", size, ok)
			}
			for _, size := range append(odd(), 1200, 1350, 65527) {
				if e := m.Acked(size); e != api.ErrNil {
					t.Errorf("Acked(%d) = %d", size, int(e))
				}
				if e := m.Lost(size); e != api.ErrNil {
					t.Errorf("Lost(%d) = %d", size, int(e))
				}
			}
			m.Hole()
		}
	}
	if plain != (mtu.Mtu{}) {
		t.Error("a plain one was changed")
	}
}
