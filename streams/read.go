package streams

import "caravel/api"

// Read reads bytes; done: they are the last ones.
func (t *Table) Read(id, n int) (b []byte, done bool, e api.Errno) {
	switch {
	case t.none():
		return nil, false, api.ErrNil
	case !t.opened(id) || !t.reads(id):
		return nil, false, api.ErrNone
	}
	s, end := t.streams[id], t.ending(id)
	switch {
	case end.quit:
		return nil, false, api.ErrState
	case end.cut:
		t.tellReset(s)
		return nil, false, api.ErrReset
	case s == nil:
		return nil, true, api.OK
	}
	b, done = s.in.Read(n)
	s.read += len(b)
	s.all = s.all || done
	t.use(len(b))
	t.widen(s)
	t.settle(s)
	return b, done, api.OK
}

// tellReset says that the application knows that the peer reset a stream; nil: it is over.
func (t *Table) tellReset(s *stream) {
	if s != nil {
		s.told = true
		t.settle(s)
	}
}

// Stop gives up reading.
func (t *Table) Stop(id, code int) api.Errno {
	switch {
	case t.none():
		return api.ErrNil
	case !isVar(code):
		return api.ErrArg
	case !t.opened(id) || !t.reads(id):
		return api.ErrNone
	}
	s := t.streams[id]
	if s == nil || s.quit || s.cut || s.all {
		return api.ErrState
	}
	s.quit = true
	t.notify(subject{api.StopSending, id}, notice{code: code})
	t.forget(api.MaxStreamData, id)
	if s.bounded() {
		t.relax(s)
	}
	t.giveUpReading(s)
	t.settle(s)
	return api.OK
}

// giveUpReading uses up what came of a stream that nobody reads any more: other streams need what is allowed of all. Zeros fill the gaps, so that the inbox lets go of what it holds; its room shrinks ahead of that, so that the stream's own limit stays.
func (t *Table) giveUpReading(s *stream) {
	rest := s.in.Reach() - s.read
	if s.in.Held() > 0 {
		s.in.Grow(s.in.Limit() - s.in.Reach())
		s.in.Put(s.read, make([]byte, rest), false)
		s.in.Read(rest)
	}
	s.read += rest
	t.use(rest)
}

// use says that so many bytes do not wait to be read any more.
func (t *Table) use(n int) {
	t.get.Used(n)
	if limit, ok := t.get.Update(); ok {
		t.notify(subject{kind: api.MaxData}, notice{limit: limit})
	}
}

// widen tells the peer how far a stream may reach now, when it is half a window more than what was told, as for all streams together. One whose end is known needs no more.
func (t *Table) widen(s *stream) {
	limit := s.in.Limit()
	if s.bounded() || limit == s.limit || limit-s.limit < (s.window+1)/2 {
		return
	}
	s.limit = limit
	t.notify(subject{api.MaxStreamData, s.id}, notice{limit: limit})
}

// relax says that it is known where a stream ends: the peer needs no more to be allowed, and to be told only once that it was stopped.
func (t *Table) relax(s *stream) {
	t.forget(api.MaxStreamData, s.id)
	about := subject{api.StopSending, s.id}
	n, ok := t.notices[about]
	switch {
	case ok && n.fresh:
		n.last = true
		t.notices[about] = n
	case ok:
		delete(t.notices, about)
	}
}
