package streams_test

import (
	"math/rand"
	"testing"

	"caravel/api"
	"caravel/streams"
)

// writing is what an application writes of a stream.
type writing struct {
	total, wrote     int
	finished, closed bool // closed: reset, by either side
}

// reading is what one has read of a stream.
type reading struct {
	got  int
	over bool
}

// end is a side of a link, with its application and what it was allowed.
type end struct {
	side
	own, peer streams.Limits
	jobs      map[int]*writing
	readings  map[int]*reading
	opened    int
	reach     map[int]int // how far each stream's frames went
	may       map[int]int // how far each may go
	mayAll    int
	mayOpen   [2]int
	flight    []api.Frame // frames that it sent and that are on their way
	told      []api.Frame // frames that came, of which the side that sent them does not know yet
}

// link is two sides whose frames are lost, repeated and swapped by chance.
type link struct {
	t      *testing.T
	random *rand.Rand
	ends   [2]*end
	most   int  // how many streams each side opens
	rude   bool // streams are reset and stopped, too
	clean  bool // nothing is lost any more
}

func newEnd(t *testing.T, server bool, own, peer streams.Limits) *end {
	t.Helper()
	return &end{side: begin(t, server, own, peer), own: own, peer: peer, jobs: map[int]*writing{}, readings: map[int]*reading{}, reach: map[int]int{}, may: map[int]int{},
		mayAll: peer.Data, mayOpen: [2]int{peer.Bidis, peer.Unis}}
}

func newLink(t *testing.T, seed int64, most int) *link {
	t.Helper()
	random := rand.New(rand.NewSource(seed))
	limits := func() streams.Limits {
		n := func(most int) int { return 1 + random.Intn(most) }
		return streams.Limits{Data: n(40), Local: n(15), Remote: n(15), Uni: n(15), Bidis: n(3), Unis: n(3)}
	}
	one, two := limits(), limits()
	return &link{t: t, random: random, ends: [2]*end{newEnd(t, false, one, two), newEnd(t, true, two, one)}, most: most}
}

// letter is what is written of a stream at a place; opener: by the side that opened it.
func letter(id, at int, opener bool) byte {
	if opener {
		return byte(id*31 + at*7 + at/5)
	}
	return byte(id*37 + at*11 + 99)
}

func (l *link) opener(who, id int) bool { return id%2 == who }

// opens opens a stream, or not; it never opens more than was allowed.
func (l *link) opens(who int) {
	e := l.ends[who]
	if e.opened == l.most {
		return
	}
	kind := l.random.Intn(2)
	id, err := e.Open(kind == 1)
	if err != api.OK {
		same(l.t, "Open", err, api.ErrLimit)
		return
	}
	if id/4 >= e.mayOpen[kind] {
		l.t.Fatalf("%d is opened, with a limit of %d", id, e.mayOpen[kind])
	}
	e.opened++
	e.jobs[id] = &writing{total: l.random.Intn(60)}
	e.may[id] = e.peer.Uni
	if kind == 0 {
		e.may[id] = e.peer.Remote
		e.readings[id] = &reading{}
	}
}

func (l *link) accepts(who int) {
	e := l.ends[who]
	id, ok := e.Accept()
	if !ok {
		return
	}
	if e.readings[id] != nil || l.opener(who, id) {
		l.t.Fatalf("Accept tells %d", id)
	}
	e.readings[id] = &reading{}
	if id%4 < 2 {
		e.jobs[id] = &writing{total: l.random.Intn(60)}
	}
}

// writes goes on writing one stream.
func (l *link) writes(who, id int) {
	e, job := l.ends[who], l.ends[who].jobs[id]
	if job == nil || job.finished || job.closed {
		return
	}
	b := make([]byte, l.random.Intn(min(job.total-job.wrote, 12)+1))
	for i := range b {
		b[i] = letter(id, job.wrote+i, l.opener(who, id))
	}
	n, err := e.Write(id, b)
	if err == api.ErrReset || err == api.ErrState {
		same(l.t, "reset", l.rude, true)
		job.closed = true
		return
	}
	same(l.t, "Write's error", err, api.OK)
	same(l.t, "Write", n, len(b))
	job.wrote += n
	switch {
	case l.rude && l.random.Intn(40) == 0:
		same(l.t, "Reset", e.Reset(id, 7), api.OK)
		job.closed = true
	case job.wrote == job.total:
		same(l.t, "Finish", e.Finish(id), api.OK)
		job.finished = true
	}
}

// reads goes on reading one stream: what it tells is what the other side wrote, and done comes just behind all of it.
func (l *link) reads(who, id int) {
	e, r := l.ends[who], l.ends[who].readings[id]
	if r == nil || r.over {
		return
	}
	b, done, err := e.Read(id, l.random.Intn(20))
	if err == api.ErrReset || err == api.ErrState {
		same(l.t, "reset", l.rude, true)
		r.over = true
		return
	}
	same(l.t, "Read's error", err, api.OK)
	job := l.ends[1-who].jobs[id]
	for i, c := range b {
		if job == nil || r.got+i >= job.wrote || c != letter(id, r.got+i, !l.opener(who, id)) {
			l.t.Fatalf("%d tells %q at %d", id, b, r.got)
		}
	}
	r.got += len(b)
	if done && (job == nil && r.got > 0 || job != nil && !job.closed && (!job.finished || r.got != job.total)) {
		l.t.Fatalf("%d is done at %d of %v", id, r.got, job)
	}
	r.over = done
	if l.rude && !done && l.random.Intn(40) == 0 {
		same(l.t, "Stop", e.Stop(id, 8), api.OK)
		r.over = true
	}
}

// sends has a side tell a frame, which goes on its way.
func (l *link) sends(who int) bool {
	e := l.ends[who]
	f, ok := e.Next(4 + l.random.Intn(20))
	if !ok {
		f, ok = e.Next(40)
	}
	if !ok {
		return false
	}
	to := 0
	switch f.Kind {
	case api.Stream:
		to = f.Offset + len(f.Data)
	case api.ResetStream:
		to = f.Limit
	default:
		e.flight = append(e.flight, f)
		return true
	}
	e.reach[f.Stream] = max(e.reach[f.Stream], to)
	all := 0
	for _, n := range e.reach {
		all += n
	}
	may := e.may[f.Stream]
	if !l.opener(who, f.Stream) {
		may = max(may, e.peer.Local)
	}
	if all > e.mayAll || to > may {
		l.t.Fatalf("%v goes beyond %d, or %d of all beyond %d", f, may, all, e.mayAll)
	}
	e.flight = append(e.flight, f)
	return true
}

// takes takes a frame that came from the other side.
func (l *link) takes(who int, f api.Frame) {
	e := l.ends[who]
	if err := e.Take(f); err != nil {
		l.t.Fatalf("Take(%v): %v", f, err)
	}
	switch f.Kind {
	case api.MaxData:
		e.mayAll = max(e.mayAll, f.Limit)
	case api.MaxStreamData:
		e.may[f.Stream] = max(e.may[f.Stream], f.Limit)
	case api.MaxStreamsBidi, api.MaxStreamsUni:
		e.mayOpen[f.Kind-api.MaxStreamsBidi] = max(e.mayOpen[f.Kind-api.MaxStreamsBidi], f.Limit)
	}
	held, came, limit, live := e.Told()
	if held > e.own.Data || came > limit || live > 2*l.most {
		l.t.Fatal(held, came, limit, live)
	}
}

// arrives has something become of a frame that a side sent.
func (l *link) arrives(who int) {
	e := l.ends[who]
	n := len(e.flight)
	if n == 0 {
		return
	}
	at := l.random.Intn(min(n, 4))
	f := e.flight[at]
	fate := l.random.Intn(8)
	if l.clean {
		fate = 7
	}
	if fate > 1 {
		l.takes(1-who, f)
	}
	switch fate {
	case 0: // lost
		e.Lost(f)
	case 1: // late
		e.flight = append(e.flight, f)
	case 2: // it came, and comes once more
		e.flight = append(e.flight, f)
		e.told = append(e.told, f)
	case 3: // it came, but the side that sent it thinks otherwise
		e.Lost(f)
	case 4: // and learns it late
		e.Lost(f)
		e.told = append(e.told, f)
	default:
		e.told = append(e.told, f)
	}
	e.flight = append(e.flight[:at], e.flight[at+1:]...)
}

// learns tells a side that a frame of its own arrived.
func (l *link) learns(who int) {
	e := l.ends[who]
	if n := len(e.told); n > 0 {
		at := l.random.Intn(n)
		e.Acked(e.told[at])
		e.told = append(e.told[:at], e.told[at+1:]...)
	}
}

// step has both sides do something by chance.
func (l *link) step() {
	who := l.random.Intn(2)
	switch l.random.Intn(8) {
	case 0:
		l.opens(who)
	case 1:
		l.accepts(who)
	case 2:
		l.writes(who, l.random.Intn(4*l.most))
	case 3:
		l.reads(who, l.random.Intn(4*l.most))
	case 4, 5:
		l.sends(who)
	case 6:
		l.arrives(who)
	default:
		l.learns(who)
	}
}

// round has both sides go on with all that they have.
func (l *link) round() {
	for who, e := range l.ends {
		for range l.most {
			l.opens(who)
			l.accepts(who)
		}
		for id := range 4 * l.most {
			l.writes(who, id)
			l.reads(who, id)
		}
		for l.sends(who) {
		}
		for len(e.flight) > 0 {
			l.arrives(who)
		}
		for len(e.told) > 0 {
			l.learns(who)
		}
	}
}

// over tells whether all is over at both sides.
func (l *link) over() bool {
	for who, e := range l.ends {
		if e.opened < l.most || liveOf(e.side) > 0 {
			return false
		}
		for id, r := range e.readings {
			job := l.ends[1-who].jobs[id]
			if !r.over || !l.rude && (job == nil || r.got != job.total) {
				return false
			}
		}
	}
	return true
}

// Whatever is lost, repeated and swapped: what is read is a beginning of what was written, done comes just behind it, never more comes than was allowed, and in the end all arrives.
func TestP21_7Link(t *testing.T) {
	for seed := range 400 {
		l := newLink(t, int64(seed), 6)
		l.rude = seed%2 == 1
		for range 1500 {
			l.step()
		}
		l.clean = true
		rounds := 0
		for ; !l.over(); rounds++ {
			if rounds == 2000 {
				t.Fatalf("with seed %d it is never over: %v, %v", seed, l.ends[0].jobs, l.ends[1].jobs)
			}
			l.round()
		}
		l.round() // what was told last arrives, and nothing is left
		l.round()
		for _, e := range l.ends {
			held, came, limit, live := e.Told()
			if held != 0 || live != 0 || came > limit {
				t.Fatal(held, came, limit, live)
			}
			e.quiet(wide)
		}
	}
}

// Losses all along, without a time from which on nothing is lost: it comes to an end, too.
func TestP21_7LinkLossy(t *testing.T) {
	for seed := range 40 {
		l := newLink(t, int64(7000+seed), 5)
		l.rude = seed%2 == 1
		steps := 0
		for ; !l.over(); steps++ {
			if steps == 2000000 {
				t.Fatalf("with seed %d it is never over", seed)
			}
			l.step()
		}
	}
}

// What is lost of one stream does not hold up another.
func TestP21_7Apart(t *testing.T) {
	for _, lossy := range []int{0, 4, 2, 6} {
		l := streams.Limits{Data: 1000, Local: 100, Remote: 100, Uni: 100, Bidis: 2, Unis: 2}
		a, b := begin(t, false, l, l), begin(t, true, l, l)
		a.opens(false, 0, 4)
		a.opens(true, 2, 6)
		for _, id := range []int{0, 2, 4, 6} {
			a.writes(id, letters)
			a.finishes(id, api.OK)
		}
		var lost []api.Frame
		for range 200 {
			f, ok := a.Next(12)
			switch {
			case !ok:
			case f.Stream == lossy:
				lost = append(lost, f)
				if len(lost)%3 == 0 {
					a.Lost(f)
				}
			default:
				b.takes(f)
				a.acked(f)
			}
		}
		for _, id := range []int{0, 2, 4, 6} {
			if id == lossy {
				continue
			}
			b.readable(rest(id, lossy)...)
			b.reads(id, 99, letters, true)
		}
		b.readable()
		a.lost(lost...)
		b.takes(a.drain()...)
		b.readable(lossy)
		b.reads(lossy, 99, letters, true)
	}
}

// rest tells the streams from one on, but one.
func rest(from, but int) []int {
	var ids []int
	for id := from; id < 8; id += 2 {
		if id != but {
			ids = append(ids, id)
		}
	}
	return ids
}

// A stream that nobody reads takes its share of all; the others go on within what is left, and all goes on when it is stopped.
func TestP21_7NotRead(t *testing.T) {
	l := streams.Limits{Data: 30, Local: 20, Remote: 20, Uni: 20, Bidis: 2, Unis: 2}
	a, b := begin(t, false, l, l), begin(t, true, l, l)
	a.opens(false, 0, 4)
	a.writes(0, letters)
	b.takes(a.tells(piece(0, 0, letters[:20]))...)
	a.writes(4, letters)
	total := ""
	for range 100 {
		for _, f := range a.drain() {
			b.takes(f)
			a.acked(f)
		}
		text, _, e := b.Read(4, 99)
		same(t, "Read's error", e, api.OK)
		total += string(text)
		a.takes(b.drain()...)
	}
	same(t, "what was read", total, letters[:10]) // 20 of 30 wait in stream 0
	b.stops(0, 1, api.OK)
	for range 100 {
		a.takes(b.drain()...)
		for _, f := range a.drain() {
			b.takes(f)
			a.acked(f)
		}
		text, _, _ := b.Read(4, 99)
		total += string(text)
	}
	same(t, "what was read", total, letters)
	_, _, limit, _ := b.Told()
	same(t, "more is allowed", limit > 30, true)
}
