package datagrams_test

import (
	"strings"
	"testing"

	"caravel/api"
	"caravel/datagrams"
)

// model is a queue as the chapter's words have it: a plain list.
type model struct {
	most, room int
	waits      []string
}

func (m *model) put(b string) api.Errno {
	if len(b) > m.most {
		return api.ErrBig
	}
	if len(m.waits) == m.room {
		return api.ErrFull
	}
	m.waits = append(m.waits, b)
	return api.OK
}

func (m *model) push(b string) (string, bool, api.Errno) {
	if len(b) > m.most {
		return "", false, api.ErrBig
	}
	if m.room == 0 {
		return "", false, api.ErrFull
	}
	m.waits = append(m.waits, b)
	if len(m.waits) <= m.room {
		return "", false, api.OK
	}
	return m.takes(), true, api.OK
}

func (m *model) next(most int) (string, bool) {
	if len(m.waits) == 0 || len(m.waits[0]) > most {
		return "", false
	}
	return m.takes(), true
}

func (m *model) takes() string {
	b := m.waits[0]
	m.waits = m.waits[1:]
	return b
}

func (m *model) first() int {
	if len(m.waits) == 0 {
		return 0
	}
	return len(m.waits[0])
}

// pair is a queue and the model of it: each call is made of both, and must answer the same.
type pair struct {
	t    *testing.T
	q    *datagrams.Queue
	m    *model
	in   []string // all that went in
	out  int      // how many of these came out
	gave [][]byte // what came out, as it was told: nobody else writes there
	made []string // the calls
	n    int      // how many datagrams were handed in
}

func newPair(t *testing.T, most, room int) *pair {
	t.Helper()
	p := &pair{t: t, q: queue(t, most, room), m: &model{most: most, room: room}}
	p.same()
	return p
}

// fails tells which calls came to what must not be.
func (p *pair) fails(what string) {
	p.t.Helper()
	p.t.Fatalf("New(%d, %d), %s: %s", p.m.most, p.m.room, strings.Join(p.made, ", "), what)
}

// same asks for what can be seen.
func (p *pair) same() {
	waits, first := p.q.Told()
	if waits != len(p.m.waits) || first != p.m.first() || waits != len(p.in)-p.out || waits > p.m.room {
		p.t.Helper()
		p.fails("Told")
	}
}

// fresh tells a datagram of so many bytes that can be told from others.
func (p *pair) fresh(size int) string {
	p.n++
	return strings.Repeat(string(rune('!'+p.n%90)), size)
}

// hands makes a call with bytes in the midst of others: all of them stay as they are, and may be changed behind the call.
func (p *pair) hands(b string, call func([]byte)) {
	p.t.Helper()
	whole := []byte("<" + b + ">>>")
	call(whole[1 : 1+len(b)])
	if string(whole) != "<"+b+">>>" {
		p.fails("what was handed in is changed")
	}
	for i := range whole {
		whole[i] = '-'
	}
}

// comes holds what came out against what went in; then it is changed, its spare room too, and more is appended.
func (p *pair) comes(b []byte) {
	p.t.Helper()
	if p.out == len(p.in) || string(b) != p.in[p.out] {
		p.fails("what came out did not go in there")
	}
	p.out++
	for i := range b[:cap(b)] {
		b[:cap(b)][i] = '*'
	}
	p.gave = append(p.gave, append(b, "+++"...))
}

func (p *pair) put(size int) {
	p.t.Helper()
	b := p.fresh(size)
	p.made = append(p.made, "Put "+short(b))
	want := p.m.put(b)
	p.hands(b, func(b []byte) {
		if e := p.q.Put(b); e != want {
			p.fails(e.Error())
		}
	})
	if want == api.OK {
		p.in = append(p.in, b)
	}
	p.same()
}

func (p *pair) push(size int) (bool, api.Errno) {
	p.t.Helper()
	b := p.fresh(size)
	p.made = append(p.made, "Push "+short(b))
	other, goes, want := p.m.push(b)
	if want == api.OK {
		p.in = append(p.in, b)
	}
	p.hands(b, func(b []byte) {
		gone, is, e := p.q.Push(b)
		if string(gone) != other || is != goes || e != want {
			p.fails(short(string(gone)) + " " + e.Error())
		}
		if is {
			p.comes(gone)
		}
	})
	p.same()
	return goes, want
}

func (p *pair) next(most int) {
	p.t.Helper()
	p.made = append(p.made, "Next")
	want, is := p.m.next(most)
	b, ok := p.q.Next(most)
	if string(b) != want || ok != is {
		p.fails(short(string(b)))
	}
	if ok {
		p.comes(b)
	}
	p.same()
}

// ends takes out what waits: then all that went in has come out, and what was told is as it was left.
func (p *pair) ends() {
	p.t.Helper()
	for len(p.m.waits) > 0 {
		p.next(len(p.m.waits[0]))
	}
	p.next(huge)
	if p.out != len(p.in) {
		p.fails("not all came out")
	}
	for _, b := range p.gave {
		if strings.Trim(string(b), "*") != "+++" {
			p.fails("what was told was changed later")
		}
	}
}

func short(b string) string {
	if len(b) > 9 {
		return b[:9] + ".."
	}
	return b
}
