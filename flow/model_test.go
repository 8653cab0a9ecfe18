package flow_test

import (
	"maps"
	"math"
	"math/big"
	"testing"

	"caravel/api"
	"caravel/flow"
)

const (
	huge = math.MaxInt
	low  = math.MinInt
	wide = 1 << 30 // the greatest window
)

// below tells numbers that are none here.
func below() []int { return []int{low, low + 1, -api.MaxVar - 1, -api.MaxVar, -wide, -2, -1} }

// above tells numbers that are limits of no side.
func above() []int { return []int{api.MaxVar + 1, api.MaxVar + 2, huge - 1, huge} }

// odd tells numbers from all of their range.
func odd() []int {
	some := []int{0, 1, 2, 5, wide - 1, wide, wide + 1, 1 << 31, 1 << 32, api.MaxVar - 1, api.MaxVar}
	return append(append(below(), some...), above()...)
}

// sum tells numbers together, however great that is.
func sum(numbers ...int) *big.Int {
	all := new(big.Int)
	for _, n := range numbers {
		all.Add(all, big.NewInt(int64(n)))
	}
	return all
}

// giveModel is a Give as the chapter's words have it.
type giveModel struct {
	limit, spent int
	told         map[int]bool // the limits at which it was told that nothing is left
}

func (m *giveModel) raise(limit int) api.Errno {
	if limit < 0 || limit > api.MaxVar {
		return api.ErrArg
	}
	if limit > m.limit {
		m.limit = limit
	}
	return api.OK
}

func (m *giveModel) spend(n int) api.Errno {
	if n < 0 {
		return api.ErrArg
	}
	if sum(m.spent, n).Cmp(sum(m.limit)) > 0 {
		return api.ErrFlow
	}
	m.spent += n
	return api.OK
}

func (m *giveModel) blocked() (int, bool) {
	if m.spent != m.limit || m.told[m.limit] {
		return 0, false
	}
	m.told[m.limit] = true
	return m.limit, true
}

// why tells what Blocked is to come to.
func (m *giveModel) why() string {
	switch {
	case m.spent != m.limit:
		return "left"
	case m.told[m.limit]:
		return "told"
	}
	return "tells"
}

// getModel is a Get as the chapter's words have it.
type getModel struct {
	window, came, used, limit int
}

func (m *getModel) take(n int) api.Errno {
	if n < 0 {
		return api.ErrArg
	}
	if sum(m.came, n).Cmp(sum(m.limit)) > 0 {
		return api.ErrFlow
	}
	m.came += n
	return api.OK
}

func (m *getModel) uses(n int) api.Errno {
	if n < 0 || sum(m.used, n).Cmp(sum(m.came)) > 0 {
		return api.ErrArg
	}
	m.used += n
	return api.OK
}

// update says "half a window (rounded up)" by the double of all.
func (m *getModel) update() (int, bool) {
	over := sum(m.used, m.window, -m.limit)
	if m.window == 0 || over.Lsh(over, 1).Cmp(sum(m.window)) < 0 {
		return 0, false
	}
	m.limit = m.used + m.window
	return m.limit, true
}

// givePair is a Give and the model of it: each call is made of both, and must answer the same.
type givePair struct {
	t *testing.T
	g *flow.Give
	m *giveModel
}

func newGivePair(t *testing.T, limit int) givePair {
	t.Helper()
	p := givePair{t, give(t, limit), &giveModel{limit: limit, told: map[int]bool{}}}
	p.same("NewGive", limit)
	return p
}

// fork tells a pair that goes on by itself from here.
func (p givePair) fork() givePair {
	g, m := *p.g, *p.m
	m.told = maps.Clone(m.told)
	return givePair{p.t, &g, &m}
}

// same asks for what can be seen, and for what holds of every Give.
func (p givePair) same(call string, n int) {
	left, limit := p.g.Left()
	if limit != p.m.limit || left != p.m.limit-p.m.spent || left < 0 || left > limit || limit > api.MaxVar {
		p.t.Helper()
		p.t.Fatalf("%s(%d): left %d of %d (%+v)", call, n, left, limit, *p.m)
	}
}

// says holds an answer against the model's; behind an error nothing is changed.
func (p givePair) says(call string, n int, got, want api.Errno, before flow.Give) {
	p.t.Helper()
	if got != want || got != api.OK && *p.g != before {
		p.t.Fatalf("%s(%d) = %d, not %d; changed: %v (%+v)", call, n, int(got), int(want), *p.g != before, *p.m)
	}
	p.same(call, n)
}

func (p givePair) raise(limit int) {
	p.t.Helper()
	before := *p.g
	p.says("Raise", limit, p.g.Raise(limit), p.m.raise(limit), before)
}

func (p givePair) spend(n int) {
	p.t.Helper()
	before := *p.g
	p.says("Spend", n, p.g.Spend(n), p.m.spend(n), before)
}

func (p givePair) blocked() {
	p.t.Helper()
	before := *p.g
	got, ok := p.g.Blocked()
	want, tells := p.m.blocked()
	if got != want || ok != tells || !ok && *p.g != before {
		p.t.Fatalf("Blocked = %d, %v, not %d, %v; changed: %v (%+v)", got, ok, want, tells, *p.g != before, *p.m)
	}
	p.same("Blocked", got)
}

// looks holds all that is kept against the model: by what is refused, and by ways on, of which each is a fork's.
func (p givePair) looks() {
	p.t.Helper()
	for _, n := range append(below(), above()...) {
		p.raise(n)
		p.spend(n)
	}
	left := p.m.limit - p.m.spent
	p.spend(left + 1)
	p.spend(left + 2)
	p.raise(p.m.limit)
	p.raise(p.m.spent)
	for _, n := range []int{0, 1, left - 1, left} {
		for _, limit := range []int{p.m.limit, p.m.limit + 1} {
			fork := p.fork()
			fork.blocked()
			fork.spend(n)
			fork.blocked()
			fork.blocked()
			fork.raise(limit)
			fork.blocked()
			fork.spend(fork.m.limit - fork.m.spent)
			fork.blocked()
			fork.blocked()
		}
	}
}

// getPair is a Get and the model of it.
type getPair struct {
	t *testing.T
	g *flow.Get
	m *getModel
}

func newGetPair(t *testing.T, window int) getPair {
	t.Helper()
	p := getPair{t, get(t, window), &getModel{window: window, limit: window}}
	p.same("NewGet", window)
	return p
}

func (p getPair) fork() getPair {
	g, m := *p.g, *p.m
	return getPair{p.t, &g, &m}
}

// same asks for what can be seen, and for what holds of every Get.
func (p getPair) same(call string, n int) {
	came, used, limit := p.g.Told()
	if came != p.m.came || used != p.m.used || limit != p.m.limit || used < 0 || used > came || came > limit || limit > used+p.m.window {
		p.t.Helper()
		p.t.Fatalf("%s(%d): came %d, used %d, limit %d (%+v)", call, n, came, used, limit, *p.m)
	}
}

func (p getPair) says(call string, n int, got, want api.Errno, before flow.Get) {
	p.t.Helper()
	if got != want || got != api.OK && *p.g != before {
		p.t.Fatalf("%s(%d) = %d, not %d; changed: %v (%+v)", call, n, int(got), int(want), *p.g != before, *p.m)
	}
	p.same(call, n)
}

func (p getPair) take(n int) {
	p.t.Helper()
	before := *p.g
	p.says("Take", n, p.g.Take(n), p.m.take(n), before)
}

func (p getPair) uses(n int) {
	p.t.Helper()
	before := *p.g
	p.says("Used", n, p.g.Used(n), p.m.uses(n), before)
}

func (p getPair) update() {
	p.t.Helper()
	before := *p.g
	got, ok := p.g.Update()
	want, tells := p.m.update()
	if got != want || ok != tells || !ok && *p.g != before {
		p.t.Fatalf("Update = %d, %v, not %d, %v; changed: %v (%+v)", got, ok, want, tells, *p.g != before, *p.m)
	}
	p.same("Update", got)
}

// looks holds all that is kept against the model: by what is refused, and by ways on, of which each is a fork's.
func (p getPair) looks() {
	p.t.Helper()
	for _, n := range append(below(), above()...) {
		p.take(n)
		p.uses(n)
	}
	room, waits := p.m.limit-p.m.came, p.m.came-p.m.used
	p.take(room + 1)
	p.uses(waits + 1)
	for _, more := range []int{0, 1, room - 1, room} {
		for _, n := range []int{0, 1, waits - 1, waits, waits + more} {
			fork := p.fork()
			fork.take(more)
			fork.uses(n)
			fork.update()
			fork.update()
			fork.take(fork.m.limit - fork.m.came + 1)
			fork.take(fork.m.limit - fork.m.came)
			fork.uses(fork.m.came - fork.m.used)
			fork.update()
		}
	}
}
