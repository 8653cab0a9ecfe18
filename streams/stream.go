package streams

import (
	"caravel/api"
	"caravel/flow"
	"caravel/inbox"
	"caravel/outbox"
)

// maxKept is how many bytes of a stream are kept till they have arrived.
const maxKept = 65536

// stream is a stream that is open and not over.
type stream struct {
	id int
	ending

	out    *outbox.Outbox // nil: this side has no writing part, or nothing of it is needed any more
	give   *flow.Give
	closed bool // Finish or Reset was called
	reset  bool
	ended  bool // the end was told: a reset does not take it back
	wrote  bool // the writing part is over, or there is none

	in     *inbox.Inbox // nil: this side has no reading part
	window int
	limit  int  // how far it may reach, as it was told to the peer
	read   int  // how many bytes were read, or given up
	all    bool // Read told done
	told   bool // Read told that the peer reset it
}

// ending is what became of a stream otherwise than that all was written and read.
type ending struct {
	quit    bool // this side stopped it
	cut     bool // the peer reset it
	stopped bool // the peer stopped it
	code    int  // with which the peer did
}

// begin makes a stream's parts; it is not among the table's yet.
func (t *Table) begin(id int) *stream {
	mine, uni := t.mine(id), isUni(id)
	s := &stream{id: id, wrote: !t.writes(id)}
	if t.writes(id) {
		s.out, _ = outbox.New(maxKept)
		s.give, _ = flow.NewGive(t.peer.first(!mine, uni))
	}
	if t.reads(id) {
		s.window = t.own.first(mine, uni)
		s.limit = s.window
		s.in, _ = inbox.New(s.window)
	}
	return s
}

// ending tells what became of a stream, also of one that is over.
func (t *Table) ending(id int) ending {
	if s := t.streams[id]; s != nil {
		return s.ending
	}
	return t.ends[id]
}

// settle takes a stream out of the table when both its parts are over.
func (t *Table) settle(s *stream) {
	if !s.wrote || !s.heard() {
		return
	}
	delete(t.streams, s.id)
	if s.ending != (ending{}) {
		t.ends[s.id] = s.ending
	}
	k := t.kind(isUni(s.id))
	if t.mine(s.id) {
		k.live--
		return
	}
	k.get.Used(1)
	if limit, ok := k.get.Update(); ok {
		t.notify(subject{kind: maxStreams(isUni(s.id))}, notice{limit: limit})
	}
}

// heard tells whether the reading part is over, or there is none.
func (s *stream) heard() bool {
	return s.in == nil || s.all || s.cut && s.told || s.quit && s.bounded()
}

// bounded tells whether it is known where the reading part ends.
func (s *stream) bounded() bool {
	_, known := s.in.Final()
	return known
}

// readable tells whether a Read would tell something new.
func (s *stream) readable() bool {
	switch {
	case s.in == nil || s.quit:
		return false
	case s.cut:
		return !s.told
	}
	return s.in.Ready() > 0 || !s.all && s.bounded() && s.read == s.in.Reach()
}

// maxStreams tells the kind of frames that tell how many streams there may be.
func maxStreams(uni bool) int {
	if uni {
		return api.MaxStreamsUni
	}
	return api.MaxStreamsBidi
}
