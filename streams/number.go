package streams

import "caravel/api"

// ownMost tells the greatest limits that a side may have for its peer: what comes must be kept.
func ownMost() Limits {
	return Limits{1 << 30, api.MaxBuffer, api.MaxBuffer, api.MaxBuffer, api.MaxStreams, api.MaxStreams}
}

// peerMost tells the greatest limits that a peer can tell.
func peerMost() Limits {
	return Limits{api.MaxVar, api.MaxVar, api.MaxVar, api.MaxVar, 1 << 60, 1 << 60}
}

// within tells whether each limit is from 0 to that of most.
func (l Limits) within(most Limits) bool {
	return isIn(l.Data, most.Data) && isIn(l.Local, most.Local) && isIn(l.Remote, most.Remote) &&
		isIn(l.Uni, most.Uni) && isIn(l.Bidis, most.Bidis) && isIn(l.Unis, most.Unis)
}

func isIn(n, most int) bool { return n >= 0 && n <= most }

func isVar(n int) bool { return isIn(n, api.MaxVar) }

// first tells how far a stream may reach at first, as the side allows it of which these are; local: it opened the stream.
func (l Limits) first(local, uni bool) int {
	switch {
	case local:
		return l.Local
	case uni:
		return l.Uni
	}
	return l.Remote
}

// number tells a stream's number, of its place among those of its kind.
func number(place int, server, uni bool) int {
	id := place << 2
	if server {
		id |= 1
	}
	if uni {
		id |= 2
	}
	return id
}

// place tells a stream's place among those of its kind.
func place(id int) int { return id >> 2 }

// isUni tells whether a stream goes one way.
func isUni(id int) bool { return id&2 != 0 }

// mine tells whether a stream would be one of this side's.
func (t *Table) mine(id int) bool { return (id&1 != 0) == t.server }

// writes tells whether this side has a writing part of a stream.
func (t *Table) writes(id int) bool { return t.mine(id) || !isUni(id) }

// reads tells whether this side has a reading part of a stream.
func (t *Table) reads(id int) bool { return !t.mine(id) || !isUni(id) }

// kind tells of the streams of a kind.
func (t *Table) kind(uni bool) *kind {
	if uni {
		return &t.kinds[1]
	}
	return &t.kinds[0]
}

// opened tells whether a stream was opened, by whichever side.
func (t *Table) opened(id int) bool {
	k := t.kind(isUni(id))
	if t.mine(id) {
		return id >= 0 && place(id) < k.spent()
	}
	return id >= 0 && place(id) < k.came()
}

// spent tells how many streams of a kind this side opened.
func (k *kind) spent() int {
	left, limit := k.give.Left()
	return limit - left
}

// came tells how many streams of a kind the peer opened.
func (k *kind) came() int {
	came, _, _ := k.get.Told()
	return came
}

// allowed tells how many streams of a kind the peer may open.
func (k *kind) allowed() int {
	_, _, limit := k.get.Told()
	return limit
}
