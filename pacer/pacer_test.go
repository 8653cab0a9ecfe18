package pacer_test

import (
	"testing"

	"caravel/api"
	"caravel/pacer"
)

// The chapter's example.
func TestP17_5Example(t *testing.T) {
	p := begin(t, 1200)
	budget(t, p, 0, 12000, 100000, 12000)
	sends(t, p, 12000, 0, 12000, 100000)
	budget(t, p, 0, 12000, 100000, 0)
	budget(t, p, 10000, 12000, 100000, 1500)
	when(t, p, 1200, 12000, 100000, 8000)
	budget(t, p, 8000, 12000, 100000, 1200)
	budget(t, p, 7999, 12000, 100000, 1199)
}

// A new pacer has ten packets, at the time 0.
func TestP17_1New(t *testing.T) {
	for _, size := range []int{1200, 1201, 1500, 9000, 65534, 65535} {
		p := begin(t, size)
		has(t, p, 10*size, 0)
		budget(t, p, 0, 1, 1, 10*size)
		budget(t, p, huge, huge, 0, 10*size)
		when(t, p, 10*size, 0, 0, 0)
		refuses(t, p, 10*size+1, 1, 1, api.ErrBig)
	}
}

func TestP17_1NewWrong(t *testing.T) {
	for _, size := range []int{low, -65535, -1200, -1, 0, 1, 120, 1198, 1199, 65536, 65537, 655350, 1<<32 + 1200, huge} {
		if p, e := pacer.New(size); p != nil || e != api.ErrArg {
			t.Errorf("New(%d) = %v, %d", size, p, int(e))
		}
	}
}

// What becomes of one pacer is nothing to another.
func TestP17_1Apart(t *testing.T) {
	a, b := begin(t, 1200), begin(t, 1200)
	sends(t, a, 500, 7, 0, 0)
	has(t, b, 12000, 0)
	sends(t, b, 11000, 3, 0, 0)
	has(t, a, 11500, 7)
	has(t, b, 1000, 3)
}

// A pacer that is nil, or that no call made: nothing is done, whatever comes.
func TestP17_1None(t *testing.T) {
	var plain pacer.Pacer
	for _, p := range []*pacer.Pacer{nil, &plain, {}, new(pacer.Pacer)} {
		for range 2 {
			for _, n := range []int{low, -1, 0, 1, 1200, end, end + 1, huge} {
				budget(t, p, n, 12000, 100000, 0)
				budget(t, p, 10000, n, 100000, 0)
				budget(t, p, 10000, 12000, n, 0)
				for _, c := range [][4]int{{n, 1, 1, 1}, {0, n, 1, 1}, {0, 1, n, 1}, {0, 1, 1, n}} {
					if e := p.Sent(c[0], c[1], c[2], c[3]); e != api.ErrNil {
						t.Errorf("Sent(%v) = %d", c, int(e))
					}
				}
				for _, c := range [][3]int{{n, 1, 1}, {0, n, 1}, {0, 1, n}, {1, 0, n}} {
					if at, e := p.When(c[0], c[1], c[2]); at != 0 || e != api.ErrNil {
						t.Errorf("When(%v) = %d, %d", c, at, int(e))
					}
				}
			}
		}
	}
	if plain != (pacer.Pacer{}) {
		t.Error("a plain one was changed")
	}
}

// A pacer that has no bytes at the time 0 is one that a call made, all the same.
func TestP17_1Empty(t *testing.T) {
	p := with(t, 1200, 0, 0)
	budget(t, p, 3, 4, 5, 3)
	sends(t, p, 1, 3, 4, 5)
	has(t, p, 2, 3)
}
