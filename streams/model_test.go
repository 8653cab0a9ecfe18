package streams_test

import (
	"bytes"
	"errors"
	"fmt"
	"math"
	"slices"
	"testing"

	"caravel/api"
	"caravel/frame"
	"caravel/streams"
)

// What a byte that was written, or the end, can be.
const (
	unsaid = iota // of the end alone: Finish was not called
	isNew
	onWay
	isLost
	arrived
)

// gate counts what came, what was used, and what is allowed: of bytes, or of streams.
type gate struct{ window, came, used, limit int }

// use tells whether a new limit is worth telling.
func (g *gate) use(n int) bool {
	g.used += n
	if g.window == 0 || 2*(g.used+g.window-g.limit) < g.window {
		return false
	}
	g.limit = g.used + g.window
	return true
}

// told is a notice of the model's.
type told struct {
	f     api.Frame
	fresh bool // never told
	lost  bool
	once  bool
}

// modelled is a stream as the chapter's words have it, remembered for good, a byte at a time.
type modelled struct {
	id                         int
	writes, reads              bool
	text                       []byte
	is                         []int // what each byte is
	end                        int
	may                        int
	closed, stopped            bool
	reset, resetArrived        bool
	came                       map[int]byte
	place, reach, used         int
	final                      int // -1: not known
	room, limit, said          int
	done, quit, cut, toldReset bool
	stopCode, resetCode        int
	over                       bool
}

// model is a table as the chapter's words have it.
type model struct {
	server    bool
	own, peer streams.Limits
	all       map[int]*modelled
	queue     []int
	opened    [2]int
	may       [2]int
	theirs    [2]gate
	bytes     gate
	mayData   int
	sentAll   int
	notices   map[string]*told
}

func newModel(server bool, own, peer streams.Limits) *model {
	m := &model{server: server, own: own, peer: peer, all: map[int]*modelled{}, notices: map[string]*told{}}
	m.may = [2]int{peer.Bidis, peer.Unis}
	m.theirs = [2]gate{{window: own.Bidis, limit: own.Bidis}, {window: own.Unis, limit: own.Unis}}
	m.bytes = gate{window: own.Data, limit: own.Data}
	m.mayData = peer.Data
	return m
}

func (m *model) isMine(id int) bool { return (id%2 == 1) == m.server }

// fresh tells a new stream.
func (m *model) fresh(id int) *modelled {
	mine, uni := m.isMine(id), id%4 > 1
	s := &modelled{id: id, writes: mine || !uni, reads: !mine || !uni, final: -1, came: map[int]byte{}}
	switch {
	case mine && uni:
		s.may = m.peer.Uni
	case mine:
		s.may, s.room = m.peer.Remote, m.own.Local
	case uni:
		s.room = m.own.Uni
	default:
		s.may, s.room = m.peer.Local, m.own.Remote
	}
	s.limit, s.said = s.room, s.room
	return s
}

func (m *model) open(uni bool) (int, api.Errno) {
	kind, id := 0, 0
	if uni {
		kind, id = 1, 2
	}
	if m.server {
		id++
	}
	live := 0
	for _, s := range m.all {
		if s.id%4 == id && !s.over {
			live++
		}
	}
	if m.opened[kind] >= m.may[kind] || live == 1024 {
		return 0, api.ErrLimit
	}
	id += 4 * m.opened[kind]
	m.opened[kind]++
	m.all[id] = m.fresh(id)
	return id, api.OK
}

func (m *model) accept() (int, bool) {
	if len(m.queue) == 0 {
		return 0, false
	}
	id := m.queue[0]
	m.queue = m.queue[1:]
	return id, true
}

// wrongWriting tells why a stream may not be written.
func (m *model) wrongWriting(id int) api.Errno {
	s := m.all[id]
	switch {
	case s == nil || !s.writes:
		return api.ErrNone
	case s.closed || s.over:
		return api.ErrState
	case s.stopped:
		return api.ErrReset
	}
	return api.OK
}

func (s *modelled) kept() int {
	for i, is := range s.is {
		if is != arrived {
			return len(s.is) - i
		}
	}
	return 0
}

func (s *modelled) sent() int {
	n := 0
	for n < len(s.is) && s.is[n] != isNew {
		n++
	}
	return n
}

func (m *model) write(id int, b []byte) (int, api.Errno) {
	if e := m.wrongWriting(id); e != api.OK {
		return 0, e
	}
	s := m.all[id]
	n := min(len(b), 65536-s.kept())
	for _, c := range b[:n] {
		s.text, s.is = append(s.text, c), append(s.is, isNew)
	}
	return n, api.OK
}

func (m *model) finish(id int) api.Errno {
	e := m.wrongWriting(id)
	if e == api.OK {
		m.all[id].closed, m.all[id].end = true, isNew
	}
	return e
}

func (m *model) resets(id, code int) api.Errno {
	if code < 0 || code > top {
		return api.ErrArg
	}
	e := m.wrongWriting(id)
	if e == api.OK {
		m.all[id].closed = true
		m.resetWriting(m.all[id], code)
	}
	return e
}

func (m *model) resetWriting(s *modelled, code int) {
	s.reset = true
	m.notify(resetOf(s.id, code, s.sent()))
}

func (m *model) stop(id, code int) api.Errno {
	s := m.all[id]
	switch {
	case code < 0 || code > top:
		return api.ErrArg
	case s == nil || !s.reads:
		return api.ErrNone
	case s.quit || s.cut || s.done:
		return api.ErrState
	}
	s.quit = true
	m.notify(stopOf(id, code))
	m.forget(maxStreamData(id, 0))
	m.giveUp(s)
	return api.OK
}

// giveUp uses all that came of a stream that is not read any more.
func (m *model) giveUp(s *modelled) {
	m.useBytes(s.reach - s.used)
	s.used = s.reach
	if s.final >= 0 {
		m.bounded(s)
	}
	m.settle(s)
}

// bounded says that a stream's end is known.
func (m *model) bounded(s *modelled) {
	m.forget(maxStreamData(s.id, 0))
	if n := m.notices[key(stopOf(s.id, 0))]; n != nil && n.fresh {
		n.once = true
	} else {
		m.forget(stopOf(s.id, 0))
	}
}

func (m *model) read(id, n int) (b []byte, done bool, e api.Errno) {
	s := m.all[id]
	switch {
	case s == nil || !s.reads:
		return nil, false, api.ErrNone
	case s.quit:
		return nil, false, api.ErrState
	case s.cut:
		s.toldReset = true
		m.settle(s)
		return nil, false, api.ErrReset
	}
	for len(b) < n {
		c, ok := s.came[s.place]
		if !ok {
			break
		}
		b = append(b, c)
		s.place++
	}
	s.used += len(b)
	m.useBytes(len(b))
	s.limit = max(s.limit, s.place+s.room)
	if s.final < 0 && s.limit > s.said && 2*(s.limit-s.said) >= s.room {
		s.said = s.limit
		m.notify(maxStreamData(id, s.said))
	}
	done = s.final == s.place
	s.done = s.done || done
	m.settle(s)
	return b, done, api.OK
}

func (m *model) useBytes(n int) {
	if m.bytes.use(n) {
		m.notify(maxData(m.bytes.limit))
	}
}

func (m *model) code(id int) (int, bool) {
	s := m.all[id]
	switch {
	case s != nil && s.cut:
		return s.resetCode, true
	case s != nil && s.stopped:
		return s.stopCode, true
	}
	return 0, false
}

func (m *model) readable() []int {
	var ids []int
	for id, s := range m.all {
		_, byteThere := s.came[s.place]
		fresh := byteThere || s.final == s.place && !s.done
		if s.cut {
			fresh = !s.toldReset
		}
		if s.reads && !s.quit && fresh {
			ids = append(ids, id)
		}
	}
	slices.Sort(ids)
	return ids
}

// settle says that a stream is over, if it is.
func (m *model) settle(s *modelled) {
	wrote := !s.writes || s.resetArrived || s.end == arrived && s.kept() == 0
	read := !s.reads || s.done || s.cut && s.toldReset || s.quit && s.final >= 0
	if wrote {
		m.forget(resetOf(s.id, 0, 0))
	}
	if s.over || !wrote || !read {
		return
	}
	s.over = true
	m.forget(maxStreamData(s.id, 0))
	if !m.isMine(s.id) && m.theirs[s.id%4/2].use(1) {
		m.notify(maxStreams(s.id%4 > 1, m.theirs[s.id%4/2].limit))
	}
}

func (m *model) told() (held, came, limit, live int) {
	for _, s := range m.all {
		for at := range s.came {
			if at >= s.place && !s.quit && !s.cut {
				held++
			}
		}
		came += s.reach
		if !s.over {
			live++
		}
	}
	return held, came, m.bytes.limit, live
}

// take tells the code and the number of what a frame closes with; of an error without a Close no code.
func (m *model) take(f api.Frame) (int, api.Errno) {
	limit := min(f.Limit, top)
	reading := f.Kind == api.Stream || f.Kind == api.ResetStream || f.Kind == api.StreamDataBlocked
	switch f.Kind {
	case api.MaxData:
		m.mayData = max(m.mayData, limit)
		return 0, api.OK
	case api.MaxStreamsBidi, api.MaxStreamsUni:
		m.may[f.Kind-api.MaxStreamsBidi] = max(m.may[f.Kind-api.MaxStreamsBidi], limit)
		return 0, api.OK
	case api.DataBlocked, api.StreamsBlockBidi, api.StreamsBlockUni:
		return 0, api.OK
	case api.Stream, api.ResetStream, api.StreamDataBlocked, api.StopSending, api.MaxStreamData:
	default:
		return 0, api.ErrKind
	}
	id := f.Stream
	if id < 0 {
		return api.StreamState, api.ErrState
	}
	s, mine, uni, kind := m.all[id], m.isMine(id), id%4 > 1, id%4/2
	switch {
	case reading && mine && uni, !reading && !mine && uni, mine && s == nil:
		return api.StreamState, api.ErrState
	case !mine && id/4 >= m.theirs[kind].limit:
		return api.StreamLimit, api.ErrLimit
	case s != nil && s.over:
		return 0, api.OK
	case s == nil:
		s = m.fresh(id)
	}
	if code, e := m.wrong(s, f); e != api.OK {
		return code, e
	}
	for m.theirs[kind].came <= id/4 && !mine {
		next := 4*m.theirs[kind].came + id%4
		m.all[next] = m.fresh(next)
		m.queue = append(m.queue, next)
		m.theirs[kind].came++
	}
	m.apply(m.all[id], f)
	return 0, api.OK
}

// endOf tells where a frame's bytes end, or top, if that is beyond all that may be.
func endOf(f api.Frame) int {
	switch {
	case f.Kind == api.ResetStream:
		return f.Limit
	case f.Offset > top-len(f.Data):
		return top
	}
	return f.Offset + len(f.Data)
}

// wrong tells what is wrong with a frame of a stream.
func (m *model) wrong(s *modelled, f api.Frame) (int, api.Errno) {
	if f.Kind == api.StopSending && (f.Code < 0 || f.Code > top) && !s.stopped && !s.resetArrived && (s.end != arrived || s.kept() > 0) {
		return 0, api.ErrArg
	}
	if f.Kind != api.Stream && f.Kind != api.ResetStream {
		return 0, api.OK
	}
	end, fin := endOf(f), f.Fin || f.Kind == api.ResetStream
	switch {
	case f.Kind == api.Stream && f.Offset < 0, f.Kind == api.ResetStream && f.Limit < 0:
		return 0, api.ErrArg
	case s.final >= 0 && end > s.final, s.final >= 0 && fin && end != s.final, fin && end < s.reach:
		return api.FinalSize, api.ErrFinal
	case end > s.limit, end > s.reach && end-s.reach > m.bytes.limit-m.bytes.came:
		return api.FlowControl, api.ErrFlow
	}
	return 0, api.OK
}

// apply does what a frame of a stream says.
func (m *model) apply(s *modelled, f api.Frame) {
	switch f.Kind {
	case api.MaxStreamData:
		s.may = max(s.may, min(f.Limit, top))
	case api.StopSending:
		if s.stopped || s.resetArrived || s.end == arrived && s.kept() == 0 {
			return
		}
		s.stopped, s.stopCode = true, f.Code
		if !s.reset {
			m.resetWriting(s, f.Code)
		}
	case api.ResetStream:
		if !s.cut {
			s.cut, s.resetCode = true, f.Code
		}
		m.reaches(s, f.Limit, true)
	case api.Stream:
		for i, c := range f.Data {
			if _, ok := s.came[f.Offset+i]; !ok {
				s.came[f.Offset+i] = c
			}
		}
		m.reaches(s, endOf(f), f.Fin)
	}
}

func (m *model) reaches(s *modelled, end int, fin bool) {
	m.bytes.came += max(end-s.reach, 0)
	s.reach = max(s.reach, end)
	if fin {
		s.final = s.reach
		m.bounded(s)
	}
	if s.quit || s.cut {
		m.giveUp(s)
	}
}

// key tells what a notice is about.
func key(f api.Frame) string {
	switch f.Kind {
	case api.MaxData, api.MaxStreamsBidi, api.MaxStreamsUni:
		return fmt.Sprint(f.Kind)
	}
	return fmt.Sprint(f.Kind, f.Stream)
}

// saysSame tells whether two frames say the same, in the fields that their kind has.
func saysSame(f, g api.Frame) bool {
	a, e := frame.Put(f)
	b, h := frame.Put(g)
	return e == api.OK && h == api.OK && bytes.Equal(a, b)
}

func (m *model) notify(f api.Frame) { m.notices[key(f)] = &told{f: f, fresh: true} }

func (m *model) forget(f api.Frame) { delete(m.notices, key(f)) }

// rank is the order of notices.
func (n *told) rank() int {
	switch n.f.Kind {
	case api.StopSending:
		return 2
	case api.ResetStream:
		return 1
	}
	return 0
}

func sizeOf(f api.Frame) int {
	b, e := frame.Put(f)
	if e != api.OK {
		return math.MaxInt
	}
	return len(b)
}

// next tells what is wrong with what Next told; "" if nothing is.
func (m *model) next(room int, f api.Frame, ok bool) string {
	var first *told
	for _, n := range m.notices {
		if (n.fresh || n.lost) && sizeOf(n.f) <= room && (first == nil || n.rank() < first.rank()) {
			first = n
		}
	}
	waits := false
	for _, s := range m.all {
		from, _, _, due := m.due(s)
		least := api.Frame{Kind: api.Stream, Stream: s.id, Offset: from, Length: true}
		if from < len(s.text) {
			least.Data = []byte("x")
		}
		waits = waits || due && sizeOf(least) <= room
	}
	switch {
	case first == nil && !waits:
		if ok {
			return "nothing is due that fits"
		}
		return ""
	case !ok:
		return "something is due that fits"
	case sizeOf(f) > room:
		return "it does not fit"
	case first == nil:
		return m.nextPiece(room, f)
	}
	n := m.notices[key(f)]
	if f.Kind == api.Stream || n == nil || !n.fresh && !n.lost || !alike(n.f, f) || n.rank() != first.rank() {
		return fmt.Sprint("not one like ", first.f)
	}
	n.fresh, n.lost = false, false
	if n.once {
		m.forget(f)
	}
	return ""
}

// due tells where the next piece of a stream begins, and how far it may go; whether the end is to be told.
func (m *model) due(s *modelled) (from, to int, end, ok bool) {
	if !s.writes || s.reset || s.over {
		return 0, 0, false, false
	}
	end = s.end == isNew || s.end == isLost
	from = slices.Index(s.is, isLost)
	if from >= 0 {
		for to = from; to < len(s.is) && s.is[to] == isLost; to++ {
		}
		return from, to, end, true
	}
	from = s.sent()
	to = min(len(s.text), s.may, from+m.mayData-m.sentAll)
	return from, to, end, to > from || end && from == len(s.text)
}

// nextPiece tells what is wrong with a Stream frame.
func (m *model) nextPiece(room int, f api.Frame) string {
	s := m.all[f.Stream]
	if s == nil || f.Kind != api.Stream {
		return "no Stream frame of an opened stream"
	}
	from, to, end, ok := m.due(s)
	n := len(f.Data)
	switch {
	case !ok || f.Offset != from || from+n > to || n == 0 && from < to:
		return fmt.Sprintf("not from %d to %d", from, to)
	case string(f.Data) != string(s.text[from:from+n]) || !f.Length || f.Fin != (end && from+n == len(s.text)):
		return fmt.Sprintf("not %q", s.text[from:to])
	}
	if from+n < to {
		more := f
		more.Data = s.text[from : from+n+1]
		if sizeOf(more) <= room {
			return "there is room for more"
		}
	}
	bare := piece(f.Stream, f.Offset, string(f.Data))
	bare.Fin = f.Fin
	if !alike(bare, f) {
		return "fields of other kinds"
	}
	for i := range n {
		if s.is[from+i] == isNew {
			m.sentAll++
		}
		s.is[from+i] = onWay
	}
	if f.Fin {
		s.end = onWay
	}
	return ""
}

// pieceTold tells the stream that a piece is of that was told; nil: it was not, or needs not be looked at.
func (m *model) pieceTold(f api.Frame) *modelled {
	s := m.all[f.Stream]
	if s == nil || !s.writes || s.over || f.Offset < 0 || f.Offset > s.sent()-len(f.Data) {
		return nil
	}
	if f.Fin && (s.end == unsaid || s.end == isNew || f.Offset+len(f.Data) != len(s.text)) {
		return nil
	}
	return s
}

func (m *model) acked(f api.Frame) {
	if f.Kind != api.Stream {
		m.noticed(f, true)
		return
	}
	s := m.pieceTold(f)
	if s == nil {
		return
	}
	for i := range f.Data {
		s.is[f.Offset+i] = arrived
	}
	if f.Fin {
		s.end = arrived
	}
	m.settle(s)
}

func (m *model) lost(f api.Frame) {
	if f.Kind != api.Stream {
		m.noticed(f, false)
		return
	}
	s := m.pieceTold(f)
	if s == nil {
		return
	}
	for i := range f.Data {
		if s.is[f.Offset+i] == onWay {
			s.is[f.Offset+i] = isLost
		}
	}
	if f.Fin && s.end == onWay {
		s.end = isLost
	}
}

func (m *model) noticed(f api.Frame, came bool) {
	n := m.notices[key(f)]
	switch {
	case n == nil || n.fresh || !saysSame(n.f, f):
	case !came:
		n.lost = true
	default:
		m.forget(f)
		if f.Kind == api.ResetStream {
			m.all[f.Stream].resetArrived = true
			m.settle(m.all[f.Stream])
		}
	}
}

// pair is a table and the model of it: each call is made of both, and must answer the same.
type pair struct {
	side
	m    *model
	sent *[]api.Frame // all frames that were told
	log  *[]string    // the calls that were made
}

func newPair(t *testing.T, server bool, own, peer streams.Limits) pair {
	t.Helper()
	p := pair{begin(t, server, own, peer), newModel(server, own, peer), new([]api.Frame), new([]string)}
	p.looks()
	return p
}

// agree asks for the same of both, and then for the same of all that is told of them.
func (p pair) agree(call string, got, want any) {
	p.t.Helper()
	*p.log = append(*p.log, fmt.Sprint(call, " = ", got))
	if fmt.Sprint(got) != fmt.Sprint(want) {
		p.t.Fatalf("%s: %v, not %v, behind %q", call, got, want, *p.log)
	}
	p.looks()
}

func (p pair) looks() {
	p.t.Helper()
	a, b, c, d := p.Told()
	e, f, g, h := p.m.told()
	if [4]int{a, b, c, d} != [4]int{e, f, g, h} {
		p.t.Fatalf("Told = %d, %d, %d, %d, not %d, %d, %d, %d, behind %q", a, b, c, d, e, f, g, h, *p.log)
	}
	if got, want := p.Readable(), p.m.readable(); !slices.Equal(got, want) {
		p.t.Fatalf("Readable = %v, not %v, behind %q", got, want, *p.log)
	}
	for id := range 12 {
		got, ok := p.Code(id)
		want, wantOk := p.m.code(id)
		if got != want || ok != wantOk {
			p.t.Fatalf("Code(%d) = %d, %v, not %d, %v, behind %q", id, got, ok, want, wantOk, *p.log)
		}
	}
}

func (p pair) doOpen(uni bool) int {
	p.t.Helper()
	id, e := p.Open(uni)
	want, f := p.m.open(uni)
	p.agree(fmt.Sprint("Open ", uni), []any{id, int(e)}, []any{want, int(f)})
	return id
}

func (p pair) doAccept() {
	p.t.Helper()
	id, ok := p.Accept()
	want, f := p.m.accept()
	p.agree("Accept", []any{id, ok}, []any{want, f})
}

func (p pair) doWrite(id int, text string) api.Errno {
	p.t.Helper()
	n, e := p.Write(id, []byte(text))
	want, f := p.m.write(id, []byte(text))
	p.agree(fmt.Sprint("Write ", id, text), []any{n, int(e)}, []any{want, int(f)})
	return e
}

func (p pair) doFinish(id int) api.Errno {
	p.t.Helper()
	e := p.Finish(id)
	p.agree(fmt.Sprint("Finish ", id), int(e), int(p.m.finish(id)))
	return e
}

func (p pair) doReset(id, code int) api.Errno {
	p.t.Helper()
	e := p.Reset(id, code)
	p.agree(fmt.Sprint("Reset ", id, code), int(e), int(p.m.resets(id, code)))
	return e
}

func (p pair) doStop(id, code int) api.Errno {
	p.t.Helper()
	e := p.Stop(id, code)
	p.agree(fmt.Sprint("Stop ", id, code), int(e), int(p.m.stop(id, code)))
	return e
}

func (p pair) doRead(id, n int) ([]byte, bool, api.Errno) {
	p.t.Helper()
	b, done, e := p.Read(id, n)
	want, last, f := p.m.read(id, n)
	p.agree(fmt.Sprint("Read ", id, n), []any{string(b), done, int(e)}, []any{string(want), last, int(f)})
	return b, done, e
}

// doTake tells the code and the number of what it came to.
func (p pair) doTake(f api.Frame) (int, api.Errno) {
	p.t.Helper()
	want, we := p.m.take(f)
	got, e := 0, api.OK
	var end *api.Close
	switch err := p.Take(f); {
	case errors.As(err, &end):
		got, e = end.Code, end.Err
		if *end != (api.Close{Code: got, Kind: f.Kind, Err: e}) || got == 0 || !errors.Is(err, e) {
			p.t.Fatalf("Take(%v) = %v", f, *end)
		}
	case err != nil:
		e = err.(api.Errno)
	}
	p.agree(fmt.Sprint("Take ", f), []any{got, int(e)}, []any{want, int(we)})
	return got, e
}

func (p pair) doNext(room int) (api.Frame, bool) {
	p.t.Helper()
	f, ok := p.Next(room)
	call := fmt.Sprint("Next ", room, f, ok)
	p.agree(call, p.m.next(room, f, ok), "")
	if !ok && !alike(f, api.Frame{}) {
		p.t.Fatal(f)
	}
	if ok {
		*p.sent = append(*p.sent, f)
	}
	return f, ok
}

func (p pair) doAcked(f api.Frame) {
	p.t.Helper()
	p.Acked(f)
	p.m.acked(f)
	p.agree(fmt.Sprint("Acked ", f), 0, 0)
}

func (p pair) doLost(f api.Frame) {
	p.t.Helper()
	p.Lost(f)
	p.m.lost(f)
	p.agree(fmt.Sprint("Lost ", f), 0, 0)
}
