package streams

import (
	"cmp"

	"caravel/api"
	"caravel/frame"
)

// subject is what a notice is about: the kind of its frame, and which stream (0: all).
type subject struct{ kind, stream int }

// notice is what the peer is to be told: of a subject the newest alone, till it has arrived.
type notice struct {
	code, limit int
	fresh       bool // it was never told
	away        bool // it was, and is not lost
	last        bool // told once it is not needed any more
}

// notify has the peer be told, in place of what it was told of the subject before.
func (t *Table) notify(about subject, n notice) {
	n.fresh = true
	t.notices[about] = n
}

// forget says that the peer needs not be told any more.
func (t *Table) forget(kind, stream int) { delete(t.notices, subject{kind, stream}) }

// nextNotice tells the first notice that is due and fits.
func (t *Table) nextNotice(room int) (api.Frame, bool) {
	var first subject
	var told api.Frame
	found := false
	for about, n := range t.notices {
		if n.away || found && !about.ahead(first) {
			continue
		}
		if f := about.frame(n); fits(f, room) {
			first, told, found = about, f, true
		}
	}
	if found {
		t.send(first)
	}
	return told, found
}

// send says that a notice was told.
func (t *Table) send(about subject) {
	n := t.notices[about]
	if n.last {
		delete(t.notices, about)
		return
	}
	n.fresh, n.away = false, true
	t.notices[about] = n
}

// answered says that a notice's frame arrived, or was lost. What was never told, or told otherwise since, is not meant.
func (t *Table) answered(f api.Frame, arrived bool) {
	about := subject{f.Kind, f.Stream}
	if !ofStream(f.Kind) {
		about.stream = 0
	}
	n, ok := t.notices[about]
	switch {
	case !ok || n.fresh || !about.same(n, f):
		return
	case !arrived:
		n.away = false
		t.notices[about] = n
		return
	}
	delete(t.notices, about)
	if f.Kind == api.ResetStream {
		t.endWriting(t.streams[f.Stream])
	}
}

// ofStream tells whether a notice's frame is about one stream.
func ofStream(kind int) bool {
	return kind == api.ResetStream || kind == api.StopSending || kind == api.MaxStreamData
}

// ahead tells whether a subject comes ahead of another: limits first, then resets, then stops.
func (a subject) ahead(b subject) bool {
	return cmp.Or(cmp.Compare(a.rank(), b.rank()), cmp.Compare(a.kind, b.kind), cmp.Compare(a.stream, b.stream)) < 0
}

// rank puts the kinds behind the limits whose numbers are below theirs.
func (a subject) rank() int {
	if a.kind == api.ResetStream || a.kind == api.StopSending {
		return 1
	}
	return 0
}

// frame tells a notice's frame.
func (a subject) frame(n notice) api.Frame {
	return api.Frame{Kind: a.kind, Stream: a.stream, Code: n.code, Limit: n.limit}
}

// same tells whether a frame says what a notice does, in the fields that its kind has.
func (a subject) same(n notice, f api.Frame) bool {
	switch a.kind {
	case api.StopSending:
		return f.Code == n.code
	case api.ResetStream:
		return f.Code == n.code && f.Limit == n.limit
	}
	return f.Limit == n.limit
}

// fits tells whether a frame can be put into so many bytes.
func fits(f api.Frame, room int) bool {
	b, e := frame.Put(f)
	return e == api.OK && len(b) <= room
}
