package flow

import "caravel/api"

// Get is what a peer is allowed.
type Get struct {
	made   bool // else a window of 0 would be a side that no call made
	window int
	came   int
	used   int
	limit  int
}

// NewGet begins with a window.
func NewGet(window int) (*Get, api.Errno) {
	if window < 0 || window > maxWindow {
		return nil, api.ErrArg
	}
	return &Get{made: true, window: window, limit: window}, api.OK
}

// Take says that so much more came.
func (g *Get) Take(n int) api.Errno {
	switch {
	case g.none():
		return api.ErrNil
	case n < 0:
		return api.ErrArg
	case n > g.limit-g.came:
		return api.ErrFlow
	}
	g.came += n
	return api.OK
}

// Used says that so much more was used up.
func (g *Get) Used(n int) api.Errno {
	switch {
	case g.none():
		return api.ErrNil
	case n < 0 || n > g.came-g.used:
		return api.ErrArg
	}
	g.used += n
	return api.OK
}

// Update tells a new limit, when it is worth it.
func (g *Get) Update() (int, bool) {
	if g.none() {
		return 0, false
	}
	// Not for each byte that was used: half a window at once costs few frames, and the peer has the other half to go on with.
	worth := func(limit int) bool { return g.window > 0 && limit-g.limit >= (g.window+1)/2 }
	limit := g.used + g.window
	if !worth(limit) {
		return 0, false
	}
	g.limit = limit
	return limit, true
}

// Told tells how much came, how much was used up, and the limit.
func (g *Get) Told() (came, used, limit int) {
	if g.none() {
		return 0, 0, 0
	}
	return g.came, g.used, g.limit
}

// none tells that there is nothing: it is nil, or no call made it.
func (g *Get) none() bool { return g == nil || *g == Get{} }
