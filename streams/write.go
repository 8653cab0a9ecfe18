package streams

import "caravel/api"

// Write writes bytes, as many as there is room for.
func (t *Table) Write(id int, b []byte) (int, api.Errno) {
	s, e := t.writing(id)
	if e != api.OK {
		return 0, e
	}
	return s.out.Write(b)
}

// Finish says that nothing more is written.
func (t *Table) Finish(id int) api.Errno {
	s, e := t.writing(id)
	if e != api.OK {
		return e
	}
	s.closed = true
	return s.out.Finish()
}

// Reset gives up writing.
func (t *Table) Reset(id, code int) api.Errno {
	if !t.none() && !isVar(code) {
		return api.ErrArg
	}
	s, e := t.writing(id)
	if e != api.OK {
		return e
	}
	s.closed = true
	t.giveUpWriting(s, code)
	return api.OK
}

// writing tells a stream that may be written, or why it may not.
func (t *Table) writing(id int) (*stream, api.Errno) {
	switch {
	case t.none():
		return nil, api.ErrNil
	case !t.opened(id) || !t.writes(id):
		return nil, api.ErrNone
	}
	s := t.streams[id]
	switch {
	case s == nil || s.closed:
		return nil, api.ErrState
	case s.stopped:
		return nil, api.ErrReset
	}
	return s, api.OK
}

// giveUpWriting resets a stream's writing part. Where its end was told all may have arrived still, which needs no reset.
func (t *Table) giveUpWriting(s *stream, code int) {
	_, sent, _ := s.out.Sizes()
	s.reset = true
	if !s.ended {
		s.out = nil
	}
	t.notify(subject{api.ResetStream, s.id}, notice{code: code, limit: sent})
}

// endWriting says that the writing part is over.
func (t *Table) endWriting(s *stream) {
	s.wrote, s.out = true, nil
	t.forget(api.ResetStream, s.id)
	t.settle(s)
}
