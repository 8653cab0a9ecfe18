package streams

import "caravel/api"

// Take takes a frame of the peer's.
func (t *Table) Take(f api.Frame) error {
	if t.none() {
		return api.ErrNil
	}
	switch f.Kind {
	case api.Stream, api.ResetStream, api.StopSending, api.MaxStreamData, api.StreamDataBlocked:
		return t.takeOf(f)
	case api.MaxData:
		t.give.Raise(telling(f.Limit))
	case api.MaxStreamsBidi, api.MaxStreamsUni:
		t.kind(f.Kind == api.MaxStreamsUni).give.Raise(telling(f.Limit))
	case api.DataBlocked, api.StreamsBlockBidi, api.StreamsBlockUni: // what this side allows hangs on what is read, not on who waits
	default:
		return api.ErrKind
	}
	return nil
}

// telling tells what a limit says: above what all numbers may be there is nothing to be allowed.
func telling(limit int) int { return min(limit, api.MaxVar) }

// takeOf takes a frame of a stream. One that the peer opens by it is among the table's only when nothing is wrong with the frame.
func (t *Table) takeOf(f api.Frame) error {
	if err := t.wrong(f); err != nil {
		return err
	}
	s := t.streams[f.Stream]
	switch {
	case s == nil && t.opened(f.Stream): // it is over
		return nil
	case s == nil:
		s = t.begin(f.Stream)
	}
	if err := t.apply(s, f); err != nil {
		return err
	}
	t.openTo(s)
	t.settle(s)
	return nil
}

// wrong tells what is wrong with a frame by its stream's number. A number below 0 is no stream's, so this side has no part of it.
func (t *Table) wrong(f api.Frame) error {
	has := t.reads(f.Stream)
	if f.Kind == api.StopSending || f.Kind == api.MaxStreamData {
		has = t.writes(f.Stream)
	}
	mine := t.mine(f.Stream)
	switch {
	case f.Stream < 0 || !has || mine && !t.opened(f.Stream):
		return closed(api.StreamState, f.Kind, api.ErrState)
	case !mine && place(f.Stream) >= t.kind(isUni(f.Stream)).allowed():
		return closed(api.StreamLimit, f.Kind, api.ErrLimit)
	}
	return nil
}

// closed tells what a connection is closed with.
func closed(code, kind int, e api.Errno) error { return &api.Close{Code: code, Kind: kind, Err: e} }

// openTo opens the peer's streams of a kind up to one, if they are not open.
func (t *Table) openTo(s *stream) {
	if t.opened(s.id) {
		return
	}
	k := t.kind(isUni(s.id))
	from, to := k.came(), place(s.id)
	for at := from; at < to; at++ {
		id := number(at, !t.server, isUni(s.id))
		t.streams[id] = t.begin(id)
		t.waits = append(t.waits, id)
	}
	t.streams[s.id] = s
	t.waits = append(t.waits, s.id)
	k.get.Take(to - from + 1)
}

// apply does what a frame says of a stream, or nothing if something is wrong with it. A reset ends the stream where a last piece without bytes would.
func (t *Table) apply(s *stream, f api.Frame) error {
	switch f.Kind {
	case api.ResetStream:
		f.Offset, f.Data, f.Fin = f.Limit, nil, true
		fallthrough
	case api.Stream:
		return t.put(s, f)
	case api.StopSending:
		return t.obey(s, f.Code)
	case api.MaxStreamData:
		s.give.Raise(telling(f.Limit))
	}
	return nil
}

// put puts a piece of a stream, or its reset. What all streams may reach is asked for first, as the inbox could not give back what it took; where the end is known nothing more can come, and the inbox tells what is wrong.
func (t *Table) put(s *stream, f api.Frame) error {
	if f.Offset < 0 {
		return api.ErrArg
	}
	at := min(f.Offset, api.MaxVar-len(f.Data)) // a greater one is as far above what is allowed
	end, before := at+len(f.Data), s.in.Reach()
	if !s.bounded() && t.above(end-before) {
		return closed(api.FlowControl, f.Kind, api.ErrFlow)
	}
	if s.quit || s.cut {
		at, f.Data = end, nil
	}
	switch e := s.in.Put(at, f.Data, f.Fin); e {
	case api.OK:
	case api.ErrFinal:
		return closed(api.FinalSize, f.Kind, e)
	default:
		return closed(api.FlowControl, f.Kind, e)
	}
	t.get.Take(s.in.Reach() - before)
	t.took(s, f)
	return nil
}

// above tells whether so many bytes more would be more than what is allowed of all streams.
func (t *Table) above(n int) bool {
	came, _, limit := t.get.Told()
	return n > limit-came
}

// took says that a piece of a stream came, or its reset.
func (t *Table) took(s *stream, f api.Frame) {
	if f.Kind == api.ResetStream && !s.cut {
		s.cut, s.code = true, f.Code
	}
	if s.quit || s.cut {
		t.giveUpReading(s)
	}
	if s.bounded() {
		t.relax(s)
	}
}

// obey gives up writing, as the peer wants it.
func (t *Table) obey(s *stream, code int) error {
	switch {
	case s.wrote || s.stopped:
		return nil
	case !isVar(code):
		return api.ErrArg
	}
	s.stopped = true
	if !s.cut {
		s.code = code
	}
	if !s.reset {
		t.giveUpWriting(s, code)
	}
	return nil
}
