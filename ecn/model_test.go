package ecn_test

import (
	"math"
	"math/big"
	"testing"

	"caravel/api"
	"caravel/ecn"
)

const (
	most = api.MaxVar
	huge = math.MaxInt
	low  = math.MinInt
)

type counts = [3]int

// model is a validation as the chapter's words have it, in whole numbers of any size. Its numbers are never changed, only put in each other's place: a copy of it goes on by itself.
type model struct {
	state            int
	sent, lost, here *big.Int
	last             [3]*big.Int
}

func newModel() *model {
	zero := whole(0)
	return &model{state: ecn.Testing, sent: zero, lost: zero, here: zero, last: [3]*big.Int{zero, zero, zero}}
}

func whole(n int) *big.Int { return big.NewInt(int64(n)) }

func plus(list ...*big.Int) *big.Int {
	sum := new(big.Int)
	for _, n := range list {
		sum.Add(sum, n)
	}
	return sum
}

func minus(a, b *big.Int) *big.Int { return new(big.Int).Sub(a, b) }

func below(a, b *big.Int) bool { return a.Cmp(b) < 0 }

func number(n *big.Int) int { return int(n.Int64()) }

func (m *model) mark() bool {
	switch m.state {
	case ecn.Testing:
		m.sent = plus(m.sent, whole(1))
		if number(m.sent) == 10 {
			m.state = ecn.Unknown
		}
		return true
	case ecn.Capable:
		m.sent = plus(m.sent, whole(1))
		return true
	}
	return false
}

func (m *model) lose(marked int) api.Errno {
	if marked < 0 || below(m.sent, plus(m.lost, m.here, whole(marked))) {
		return api.ErrArg
	}
	m.lost = plus(m.lost, whole(marked))
	all := m.sent.Cmp(m.lost) == 0 && !below(m.sent, whole(10))
	if all && (m.state == ecn.Testing || m.state == ecn.Unknown) {
		m.state = ecn.Failed
	}
	return api.OK
}

func (m *model) take(marked int, peer counts, says bool) (bool, api.Errno) {
	bad := marked < 0
	for _, n := range peer {
		bad = bad || n < 0 || below(whole(most), whole(n))
	}
	if bad || below(m.sent, plus(m.lost, m.here, whole(marked))) {
		return false, api.ErrArg
	}
	m.here = plus(m.here, whole(marked))
	if m.state == ecn.Failed {
		return false, api.OK
	}
	if len(m.faults(marked, peer, says)) > 0 {
		m.state = ecn.Failed
		return false, api.OK
	}
	if !says {
		return false, api.OK
	}
	grew := below(m.last[2], whole(peer[2]))
	m.last = [3]*big.Int{whole(peer[0]), whole(peer[1]), whole(peer[2])}
	if marked > 0 && (m.state == ecn.Testing || m.state == ecn.Unknown) {
		m.state = ecn.Capable
	}
	return grew, api.OK
}

// faults tells all for which a validation fails.
func (m *model) faults(marked int, peer counts, says bool) (list []string) {
	note := func(name string, is bool) {
		if is {
			list = append(list, name)
		}
	}
	note("unsaid", marked > 0 && !says)
	if !says {
		return list
	}
	together := plus(whole(peer[0]), whole(peer[2]))
	note("ect1", peer[1] > 0)
	note("back0", below(whole(peer[0]), m.last[0]))
	note("back1", below(whole(peer[1]), m.last[1]))
	note("back2", below(whole(peer[2]), m.last[2]))
	note("less", below(minus(together, plus(m.last[0], m.last[2])), whole(marked)))
	note("above", below(m.sent, together))
	return list
}

// way tells how many marked packets are neither lost nor here.
func (m *model) way() int { return number(minus(m.sent, plus(m.lost, m.here))) }

// pair is a validation and the model of it: each call is made of both, and must answer the same.
type pair struct {
	t *testing.T
	c *ecn.Ecn
	m *model
}

func newPair(t *testing.T) pair {
	t.Helper()
	p := pair{t, ecn.New(), newModel()}
	p.state("New")
	return p
}

// fork tells a pair that goes on by itself from here.
func (p pair) fork() pair {
	c, m := *p.c, *p.m
	return pair{p.t, &c, &m}
}

func (p pair) state(call string, arguments ...any) {
	if got := p.c.State(); got != p.m.state {
		p.t.Helper()
		p.t.Fatalf("%s%v: the state is %d, not %d", call, arguments, got, p.m.state)
	}
}

func (p pair) sent() {
	if got, want := p.c.Sent(), p.m.mark(); got != want {
		p.t.Helper()
		p.t.Fatalf("Sent = %v, not %v", got, want)
	}
	p.state("Sent")
}

func (p pair) lost(marked int) {
	before := *p.c
	got, want := p.c.Lost(marked), p.m.lose(marked)
	if got != want || got != api.OK && *p.c != before {
		p.t.Helper()
		p.t.Fatalf("Lost(%d) = %d, not %d; changed: %v", marked, int(got), int(want), *p.c != before)
	}
	p.state("Lost", marked)
}

func (p pair) acked(marked int, peer counts, says bool) {
	before := *p.c
	got, e := p.c.Acked(marked, peer, says)
	want, wantError := p.m.take(marked, peer, says)
	if got != want || e != wantError || e != api.OK && *p.c != before {
		p.t.Helper()
		p.t.Fatalf("Acked(%d, %v, %v) = %v, %d, not %v, %d; changed: %v", marked, peer, says, got, int(e), want, int(wantError), *p.c != before)
	}
	p.state("Acked", marked, peer, says)
}

// looks holds all that is kept against the model, by calls of which each is made of a fork.
func (p pair) looks() {
	p.t.Helper()
	way, sent := p.m.way(), number(p.m.sent)
	zero, two := number(p.m.last[0]), number(p.m.last[2])
	p.fork().sent()
	for _, marked := range []int{-1, 0, 1, way - 1, way, way + 1} {
		p.fork().lost(marked)
		p.fork().acked(marked, counts{}, false)
		p.fork().acked(marked, counts{zero, 0, two + marked}, true)
		p.fork().acked(marked, counts{zero, 0, two + marked - 1}, true)
	}
	for _, peer := range []counts{
		{zero, 0, two}, {zero - 1, 0, two}, {zero, 0, two - 1}, {zero + 1, 0, two}, {zero, 0, two + 1}, {zero, 1, two},
		{sent - two, 0, two}, {sent - two + 1, 0, two}, {zero, 0, sent - zero}, {zero, 0, sent - zero + 1},
	} {
		p.fork().acked(0, peer, true)
	}
}

// begin tells a new validation.
func begin(t *testing.T) *ecn.Ecn {
	t.Helper()
	c := ecn.New()
	if c == nil {
		t.Fatal("New tells nothing")
	}
	return c
}

// after tells a validation of which so many were sent while it tests.
func after(t *testing.T, sent int) *ecn.Ecn {
	t.Helper()
	c := begin(t)
	sends(t, c, sent)
	return c
}

// able tells one that is capable, of which so many were sent, one is here, and the peer counted that one.
func able(t *testing.T, sent int) *ecn.Ecn {
	t.Helper()
	c := after(t, 1)
	takes(t, c, 1, counts{1, 0, 0}, false)
	sends(t, c, sent-1)
	is(t, c, ecn.Capable)
	return c
}

// broken tells one that failed, of which so many were sent, and one is here.
func broken(t *testing.T, sent int) *ecn.Ecn {
	t.Helper()
	c := able(t, sent)
	takes(t, c, 0, counts{1, 1, 0}, false)
	is(t, c, ecn.Failed)
	return c
}

func is(t *testing.T, c *ecn.Ecn, state int) {
	if got := c.State(); got != state {
		t.Helper()
		t.Fatalf("the state is %d, not %d", got, state)
	}
}

// sends asks that so many are marked.
func sends(t *testing.T, c *ecn.Ecn, n int) {
	t.Helper()
	for i := range n {
		if !c.Sent() {
			t.Fatalf("packet %d is not marked", i)
		}
	}
}

// silent asks that nothing is marked any more, and that this changes nothing.
func silent(t *testing.T, c *ecn.Ecn) {
	t.Helper()
	before := *c
	for range 3 {
		if c.Sent() || *c != before {
			t.Fatalf("a packet is marked in the state %d, or something has changed", c.State())
		}
	}
}

func loses(t *testing.T, c *ecn.Ecn, marked int) {
	if e := c.Lost(marked); e != api.OK {
		t.Helper()
		t.Fatalf("Lost(%d) = %d", marked, int(e))
	}
}

// takes asks that counts are taken, with or without congestion.
func takes(t *testing.T, c *ecn.Ecn, marked int, peer counts, congested bool) {
	if got, e := c.Acked(marked, peer, true); got != congested || e != api.OK {
		t.Helper()
		t.Fatalf("Acked(%d, %v) = %v, %d, not %v", marked, peer, got, int(e), congested)
	}
}

// quiet asks that something arrives without the peer's counts.
func quiet(t *testing.T, c *ecn.Ecn, marked int, peer counts) {
	if got, e := c.Acked(marked, peer, false); got || e != api.OK {
		t.Helper()
		t.Fatalf("Acked(%d, unsaid) = %v, %d", marked, got, int(e))
	}
}

// refusesLost asks that marked packets can't be lost, and that nothing has changed behind that.
func refusesLost(t *testing.T, c *ecn.Ecn, marked int) {
	t.Helper()
	before := *c
	if e := c.Lost(marked); e != api.ErrArg || *c != before {
		t.Fatalf("Lost(%d) = %d; changed: %v", marked, int(e), *c != before)
	}
}

// refusesAcked asks that something can't arrive, said or not, and that nothing has changed behind that.
func refusesAcked(t *testing.T, c *ecn.Ecn, marked int, peer counts) {
	t.Helper()
	before := *c
	for _, says := range []bool{true, false} {
		if got, e := c.Acked(marked, peer, says); got || e != api.ErrArg || *c != before {
			t.Fatalf("Acked(%d, %v, %v) = %v, %d; changed: %v", marked, peer, says, got, int(e), *c != before)
		}
	}
}

// onWay asks how many marked packets are on their way, with forks.
func onWay(t *testing.T, c *ecn.Ecn, want int) {
	t.Helper()
	for _, marked := range []int{want, want + 1} {
		fork := *c
		got := fork.Lost(marked)
		if (got == api.OK) != (marked == want) {
			t.Fatalf("with %d on their way Lost(%d) = %d", want, marked, int(got))
		}
	}
}

// each tells one of each state, with three packets on their way at least.
func each(t *testing.T) map[int]*ecn.Ecn {
	t.Helper()
	return map[int]*ecn.Ecn{ecn.Testing: after(t, 4), ecn.Unknown: after(t, 10), ecn.Capable: able(t, 12), ecn.Failed: broken(t, 12)}
}
