package streams_test

import (
	"fmt"
	"math/rand"
	"slices"
	"testing"

	"caravel/api"
	"caravel/streams"
)

// rows makes each row of so many calls, each of a new pair.
func rows(t *testing.T, length int, made func() pair, calls []func(p pair)) {
	t.Helper()
	count := 1
	for range length {
		count *= len(calls)
	}
	for row := range count {
		p := made()
		for range length {
			calls[row%len(calls)](p)
			row /= len(calls)
		}
	}
}

// told tells a frame that was told, counted from the last one; a Ping if there is none.
func (p pair) told(back int) api.Frame {
	if back >= len(*p.sent) {
		return api.Frame{Kind: api.Ping}
	}
	return (*p.sent)[len(*p.sent)-1-back]
}

// answersOf are the calls that say what became of frames that were told.
func answersOf() []func(p pair) {
	return []func(p pair){
		func(p pair) { p.doNext(4) },
		func(p pair) { p.doNext(wide) },
		func(p pair) { p.doAcked(p.told(0)) },
		func(p pair) { p.doAcked(p.told(1)) },
		func(p pair) { p.doLost(p.told(0)) },
		func(p pair) { p.doLost(p.told(1)) },
	}
}

// Every row of few calls of a stream that is written.
func TestP21_7EveryWritten(t *testing.T) {
	made := func() pair {
		p := newPair(t, false, some(), streams.Limits{Data: 3, Uni: 2, Unis: 1})
		p.doOpen(true)
		return p
	}
	rows(t, 4, made, append(answersOf(),
		func(p pair) { p.doWrite(2, "ab") },
		func(p pair) { p.doFinish(2) },
		func(p pair) { p.doReset(2, 5) },
		func(p pair) { p.doTake(stopOf(2, 6)) },
		func(p pair) { p.doTake(maxStreamData(2, 4)) },
		func(p pair) { p.doTake(maxData(5)) },
	))
	sent := func() pair {
		p := made()
		p.doWrite(2, "abc")
		p.doNext(4)
		return p
	}
	rows(t, 4, sent, append(answersOf(),
		func(p pair) { p.doFinish(2) },
		func(p pair) { p.doReset(2, 5) },
		func(p pair) { p.doTake(stopOf(2, 6)) },
		func(p pair) { p.doTake(maxStreamData(2, 3)) },
	))
	ended := func() pair {
		p := made()
		p.doTake(maxStreamData(2, 3))
		p.doWrite(2, "abc")
		p.doFinish(2)
		p.doNext(4)
		p.doNext(wide)
		return p
	}
	rows(t, 4, ended, append(answersOf(), func(p pair) { p.doTake(stopOf(2, 6)) }, func(p pair) { p.doReset(2, 5) }))
}

// Every row of few calls of a stream that is read.
func TestP21_7EveryRead(t *testing.T) {
	for _, data := range []int{3, 9} {
		made := func() pair {
			return newPair(t, false, streams.Limits{Data: data, Uni: 3, Unis: 1}, some())
		}
		rows(t, 4, made, append(answersOf(),
			func(p pair) { p.doTake(piece(3, 0, "a")) },
			func(p pair) { p.doTake(piece(3, 1, "bc")) },
			func(p pair) { p.doTake(piece(3, 3, "d")) },
			func(p pair) { p.doTake(last(3, 2, "")) },
			func(p pair) { p.doTake(resetOf(3, 7, 3)) },
			func(p pair) { p.doRead(3, 0) },
			func(p pair) { p.doRead(3, 2) },
			func(p pair) { p.doStop(3, 8) },
		))
		rows(t, 5, made, []func(p pair){
			func(p pair) { p.doTake(piece(3, 0, "ab")) },
			func(p pair) { p.doTake(last(3, 2, "c")) },
			func(p pair) { p.doTake(resetOf(3, 7, 3)) },
			func(p pair) { p.doRead(3, 9) },
			func(p pair) { p.doStop(3, 8) },
			func(p pair) { p.doNext(wide) },
			func(p pair) { p.doLost(p.told(0)) },
		})
	}
}

// Every row of few calls of a stream that goes both ways, as each side has it.
func TestP21_7EveryBoth(t *testing.T) {
	for _, server := range []bool{false, true} {
		made := func() pair {
			l := streams.Limits{Data: 4, Local: 2, Remote: 2, Bidis: 1}
			p := newPair(t, server, l, l)
			if !server {
				p.doOpen(false)
			}
			return p
		}
		rows(t, 4, made, append(answersOf()[1:5],
			func(p pair) { p.doTake(piece(0, 0, "ab")) },
			func(p pair) { p.doTake(last(0, 2, "")) },
			func(p pair) { p.doTake(resetOf(0, 7, 2)) },
			func(p pair) { p.doTake(stopOf(0, 6)) },
			func(p pair) { p.doRead(0, 2) },
			func(p pair) { p.doStop(0, 8) },
			func(p pair) { p.doWrite(0, "xyz") },
			func(p pair) { p.doFinish(0) },
			func(p pair) { p.doReset(0, 9) },
		))
	}
}

// Every row of few calls about how many streams there are.
func TestP21_7EveryMany(t *testing.T) {
	made := func() pair {
		l := streams.Limits{Data: 9, Local: 2, Remote: 2, Uni: 2, Bidis: 1, Unis: 2}
		return newPair(t, true, l, l)
	}
	rows(t, 4, made, []func(p pair){
		func(p pair) { p.doOpen(true) },
		func(p pair) { p.doTake(maxStreams(true, 3)) },
		func(p pair) { p.doTake(last(2, 0, "")) },
		func(p pair) { p.doTake(last(6, 0, "")) },
		func(p pair) { p.doTake(last(10, 0, "")) },
		func(p pair) { p.doAccept() },
		func(p pair) { p.doRead(6, 1) },
		func(p pair) { p.doStop(2, 1) },
		func(p pair) { p.doNext(wide) },
		func(p pair) { p.doLost(p.told(0)) },
	})
}

// reached counts which edges calls by chance came to: without that they would ask for little.
type reached map[string]int

func (r reached) all(t *testing.T, least int, edges ...string) {
	t.Helper()
	for _, edge := range edges {
		if r[edge] < least {
			t.Errorf("%q was come to %d times", edge, r[edge])
		}
	}
}

func small(random *rand.Rand) streams.Limits {
	n := func(most int) int { return random.Intn(most + 1) }
	return streams.Limits{Data: n(30), Local: n(12), Remote: n(12), Uni: n(12), Bidis: n(3), Unis: n(3)}
}

// chance is a pair of which calls are made by chance.
type chance struct {
	pair
	random *rand.Rand
	r      reached
}

func (c chance) id() int {
	if c.random.Intn(30) == 0 {
		return odd()[c.random.Intn(len(odd()))]
	}
	return c.random.Intn(12)
}

func (c chance) number(most int) int {
	if c.random.Intn(40) == 0 {
		return odd()[c.random.Intn(len(odd()))]
	}
	return c.random.Intn(most + 1)
}

const letters = "abcdefghijklmnopqrstuvwxyz"

// comes takes a frame of the peer's.
func (c chance) comes() {
	id, offset := c.id(), c.number(14)
	text := letters[c.random.Intn(12):][:c.random.Intn(8)]
	var f api.Frame
	switch c.random.Intn(18) {
	case 0:
		f = resetOf(id, c.random.Intn(5), offset)
	case 1:
		f = stopOf(id, c.number(5))
	case 2, 3:
		f = maxStreamData(id, c.number(40))
	case 4, 5:
		f = maxData(c.number(200))
	case 6:
		f = maxStreams(c.random.Intn(2) == 0, c.number(6))
	case 7:
		f = []api.Frame{blockedOf(id, offset), of(api.DataBlocked, id), of(api.StreamsBlockBidi, id), of(api.StreamsBlockUni, id), of(c.random.Intn(70), id)}[c.random.Intn(5)]
	case 8, 9:
		f = last(id, offset, text)
	default:
		f = piece(id, offset, text)
		if s := c.m.all[id]; s != nil && c.random.Intn(2) == 0 {
			f.Offset = s.place
		}
	}
	code, e := c.doTake(f)
	c.r[fmt.Sprint("take ", f.Kind, " ", code, " ", int(e))]++
	if s := c.m.all[f.Stream]; e == api.OK && s != nil && s.over {
		c.r["take, over"]++
	}
}

// calls makes a call of the application.
func (c chance) calls() {
	id := c.id()
	switch c.random.Intn(16) {
	case 0:
		c.doOpen(c.random.Intn(2) == 0)
	case 1:
		c.doAccept()
	case 2, 3, 4, 5:
		c.r[fmt.Sprint("write ", int(c.doWrite(id, letters[c.random.Intn(12):][:c.random.Intn(10)])))]++
	case 6:
		c.r[fmt.Sprint("finish ", int(c.doFinish(id)))]++
	case 7:
		if c.random.Intn(3) == 0 {
			c.r[fmt.Sprint("reset ", int(c.doReset(id, c.number(9))))]++
		}
	case 8:
		if c.random.Intn(3) == 0 {
			c.r[fmt.Sprint("stop ", int(c.doStop(id, c.number(9))))]++
		}
	default:
		_, done, e := c.doRead(id, c.number(12))
		c.r[fmt.Sprint("read ", int(e), done)]++
	}
}

// sends has a frame be told, or says what became of one that was.
func (c chance) sends() {
	n := len(*c.sent)
	if n == 0 || c.random.Intn(2) == 0 {
		f, ok := c.doNext([]int{-1, 0, 2, 3, 4, 5, 6, 9, wide}[c.random.Intn(9)])
		c.r[fmt.Sprint("next ", f.Kind, ok)]++
		return
	}
	f := (*c.sent)[max(n-1-c.random.Intn(12), 0)]
	if c.random.Intn(20) == 0 {
		f.Offset += c.random.Intn(3) - 1
		f.Limit += c.random.Intn(3) - 1
		f.Fin = f.Kind == api.Stream && c.random.Intn(2) == 0
	}
	if c.random.Intn(2) == 0 {
		c.doAcked(f)
	} else {
		c.doLost(f)
	}
}

// run makes so many calls by chance of a new pair.
func run(t *testing.T, seed int64, calls int, r reached) pair {
	random := rand.New(rand.NewSource(seed))
	c := chance{newPair(t, random.Intn(2) == 0, small(random), small(random)), random, r}
	for range calls {
		switch random.Intn(5) {
		case 0, 1:
			c.comes()
		case 2, 3:
			c.calls()
		default:
			c.sends()
		}
	}
	for _, s := range c.m.all {
		r[fmt.Sprint("over ", s.over, s.writes, s.reads)]++
	}
	return c.pair
}

// Calls by chance, held against the chapter's words.
func TestP21_7Random(t *testing.T) {
	r := reached{}
	for seed := range 2000 {
		run(t, int64(seed), 250, r)
	}
	for _, kind := range []int{api.Stream, api.ResetStream} {
		for _, end := range []string{"0 0", "5 32", "4 31", "6 33", "3 30"} {
			r.all(t, 30, fmt.Sprint("take ", kind, " ", end))
		}
	}
	for _, kind := range []int{api.StopSending, api.MaxStreamData, api.StreamDataBlocked} {
		for _, end := range []string{"0 0", "5 32", "4 31"} {
			r.all(t, 30, fmt.Sprint("take ", kind, " ", end))
		}
	}
	for _, kind := range []int{api.MaxData, api.MaxStreamsBidi, api.MaxStreamsUni, api.DataBlocked, api.StreamsBlockBidi, api.StreamsBlockUni} {
		r.all(t, 30, fmt.Sprint("take ", kind, " 0 0"))
	}
	r.all(t, 10, "take 1 0 12", "take 9 0 12", "take, over", "take 8 0 2", "take 5 0 2", "reset 2", "stop 2")
	for _, call := range []string{"write ", "finish ", "reset "} {
		r.all(t, 30, call+"0", call+"15", call+"32", call+"34")
	}
	r.all(t, 30, "stop 0", "stop 15", "stop 32", "read 0 true", "read 0 false", "read 15 false", "read 32 false", "read 34 false")
	for _, kind := range []int{api.Stream, api.ResetStream, api.StopSending, api.MaxData, api.MaxStreamData, api.MaxStreamsBidi, api.MaxStreamsUni} {
		r.all(t, 30, fmt.Sprint("next ", kind, " true"))
	}
	r.all(t, 30, "next 0 false", "over true true true", "over true true false", "over true false true", "over false true true")
}

// The same calls twice tell the same: no order of a map.
func TestP21_7Twice(t *testing.T) {
	for seed := range 100 {
		one, two := run(t, int64(9000+seed), 300, reached{}), run(t, int64(9000+seed), 300, reached{})
		if !slices.Equal(*one.log, *two.log) {
			t.Fatalf("%q\n%q", *one.log, *two.log)
		}
	}
	var first []api.Frame
	for range 20 { // very many at once
		s := begin(t, true, plenty(), plenty())
		for n := range 100 {
			s.Open(n%3 == 0)
		}
		s.takes(piece(4*90, 0, "abc"), piece(4*90+2, 0, "abc"))
		for id := range 4 * 60 {
			s.Write(id, []byte("abcdef"))
			if id%7 == 0 {
				s.Reset(id, id)
			}
			if id%5 == 0 {
				s.Stop(id, id)
			}
		}
		all := s.drain()
		s.lost(all...)
		all = append(all, s.drain()...)
		if first == nil {
			first = all
		}
		same(t, "frames", len(all), len(first))
		for i, f := range all {
			if !alike(f, first[i]) {
				t.Fatal(i, f, first[i])
			}
		}
	}
}
