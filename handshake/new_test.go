package handshake_test

import (
	"math"
	"slices"
	"strings"
	"testing"

	"caravel/api"
	"caravel/handshake"
	"caravel/vault"
)

// refusedNew asks that New makes no machine, for that reason, and no term.
func (x *world) refusedNew(what string, c handshake.Config, want api.Errno) {
	x.t.Helper()
	m, e := handshake.New(x.v, c, x.book)
	if m != nil || e != want {
		x.t.Errorf("%s: New = %v, %d; not error %d", what, m, int(e), int(want))
	}
	x.alike()
}

func TestP13_1NoVault(t *testing.T) {
	x := newWorld(t)
	for _, v := range []*vault.Vault{nil, {}} {
		for _, c := range []handshake.Config{x.client(), x.server(), {}, {Server: true}, {Life: -1}} {
			if m, e := handshake.New(v, c, x.book); m != nil || e != api.ErrNil {
				t.Errorf("New without a vault = %v, %d", m, int(e))
			}
		}
	}
}

// A server needs a book, whatever else is wrong; a client's is not looked at.
func TestP13_1NoBook(t *testing.T) {
	x := newWorld(t)
	for _, b := range []*handshake.Book{nil, {}} {
		for _, c := range []handshake.Config{x.server(), {Server: true}, {Server: true, Life: -1}} {
			if m, e := handshake.New(x.v, c, b); m != nil || e != api.ErrNil {
				t.Errorf("a server without a book = %v, %d", m, int(e))
			}
		}
		if m, e := handshake.New(x.v, x.client(), b); m == nil || e != api.OK {
			t.Errorf("a client without a book = %v, %d", m, int(e))
		}
		if m, e := handshake.New(x.v, handshake.Config{}, b); m != nil || e != api.ErrArg {
			t.Errorf("a client without anything = %v, %d", m, int(e))
		}
	}
	x.alike()
}

// change is a config that differs from the usual one.
type change struct {
	what string
	with func(c *handshake.Config)
}

// text is a text of n bytes.
func text(n int) string { return strings.Repeat("\xff", n) }

// protos are so many, of one byte each but the last one, which has n.
func protos(count, n int) (list []string) {
	for i := range count {
		list = append(list, string(rune('a'+i%26)))
	}
	list[count-1] = text(n)
	return list
}

// strangers are handles that are no term's name, in a vault of few terms.
func strangers() []vault.Handle {
	list := []vault.Handle{{}, name(1 << 12), {0: 1}, {15: 0xff}}
	for _, bit := range []int{0, 63, 64, 127} {
		h := name(1)
		h[bit/8] ^= 1 << (bit % 8)
		list = append(list, h)
	}
	return list
}

// may are changes of either side that may be.
func may() []change {
	return []change{
		{"as usual", func(c *handshake.Config) {}},
		{"no name", func(c *handshake.Config) { c.Name = "" }},
		{"a name of 255 bytes", func(c *handshake.Config) { c.Name = text(255) }},
		{"one proto of one byte", func(c *handshake.Config) { c.Protos = protos(1, 1) }},
		{"one proto of 255 bytes", func(c *handshake.Config) { c.Protos = protos(1, 255) }},
		{"eight protos", func(c *handshake.Config) { c.Protos = protos(8, 255) }},
		{"one proto twice", func(c *handshake.Config) { c.Protos = []string{"a", "a"} }},
		{"no params", func(c *handshake.Config) { c.Params = nil }},
		{"params of 4096 bytes", func(c *handshake.Config) { c.Params = make([]byte, 4096) }},
		{"no life", func(c *handshake.Config) { c.Life = 0 }},
		{"the longest life", func(c *handshake.Config) { c.Life = 1<<32 - 1 }},
		{"before without a ticket", func(c *handshake.Config) {
			c.Before = handshake.Before{Ticket: []byte{}, Secret: vault.Handle{0: 1}, Proto: text(999), Early: true}
		}},
		{"a ticket of one byte", func(c *handshake.Config) { c.Before = handshake.Before{Ticket: []byte{0}, Secret: name(1)} }},
		{"a ticket of 512 bytes", func(c *handshake.Config) {
			c.Before = handshake.Before{Ticket: make([]byte, 512), Secret: name(1), Proto: text(999)}
		}},
		{"early", func(c *handshake.Config) { c.Early = true }},
	}
}

// mayNot are changes of either side that may not be.
func mayNot() []change {
	list := []change{
		{"a name of 256 bytes", func(c *handshake.Config) { c.Name = text(256) }},
		{"a name of 2^16 bytes", func(c *handshake.Config) { c.Name = text(1 << 16) }},
		{"a proto of no byte", func(c *handshake.Config) { c.Protos = []string{""} }},
		{"a last proto of no byte", func(c *handshake.Config) { c.Protos = protos(3, 0) }},
		{"a first proto of no byte", func(c *handshake.Config) { c.Protos = []string{"", "a"} }},
		{"a proto of 256 bytes", func(c *handshake.Config) { c.Protos = protos(1, 256) }},
		{"a last proto of 256 bytes", func(c *handshake.Config) { c.Protos = protos(8, 256) }},
		{"params of 4097 bytes", func(c *handshake.Config) { c.Params = make([]byte, 4097) }},
		{"params of 2^20 bytes", func(c *handshake.Config) { c.Params = make([]byte, 1<<20) }},
		{"a ticket of 513 bytes", func(c *handshake.Config) {
			c.Before = handshake.Before{Ticket: make([]byte, 513), Secret: name(1)}
		}},
		{"a ticket of 2^16 + 16 bytes", func(c *handshake.Config) {
			c.Before = handshake.Before{Ticket: make([]byte, 1<<16+16), Secret: name(1)}
		}},
	}
	for _, life := range []int{-1, -7, math.MinInt, 1 << 32, 1<<32 + 1, math.MaxInt} {
		list = append(list, change{"another life", func(c *handshake.Config) { c.Life = life }})
	}
	return list
}

func TestP13_1MayBe(t *testing.T) {
	x := newWorld(t)
	for _, change := range may() {
		for _, c := range []handshake.Config{x.client(), x.server()} {
			change.with(&c)
			if m, e := handshake.New(x.v, c, x.book); m == nil || e != api.OK {
				t.Errorf("%s: New = %v, %d", change.what, m, int(e))
			}
			x.alike()
		}
	}
}

func TestP13_1MayNotBe(t *testing.T) {
	x := newWorld(t)
	for _, change := range mayNot() {
		for _, c := range []handshake.Config{x.client(), x.server()} {
			change.with(&c)
			x.refusedNew(change.what, c, api.ErrArg)
		}
	}
}

// How many protos there are is a matter of the client's message alone: the server says one.
func TestP13_1HowManyProtos(t *testing.T) {
	x := newWorld(t)
	for _, list := range [][]string{nil, {}, protos(9, 1), protos(300, 1)} {
		c := x.client()
		c.Protos = list
		x.refusedNew("a client's protos", c, api.ErrArg)
		s := x.server()
		s.Protos = list
		if m, e := handshake.New(x.v, s, x.book); m == nil || e != api.OK {
			t.Errorf("a server of %d protos = %v, %d", len(list), m, int(e))
		}
		s.Params = make([]byte, 4097)
		x.refusedNew("a server's params", s, api.ErrArg)
	}
}

// Handles that are no term's name: each side's own, and what it does not have is not looked at.
func TestP13_1Handles(t *testing.T) {
	x := newWorld(t)
	ticket := []byte("ticket")
	for _, h := range strangers() {
		c, s := x.client(), x.server()
		c.Trusted, s.Secret = h, h
		x.refusedNew("trusted", c, api.ErrArg)
		x.refusedNew("secret", s, api.ErrArg)

		c, s = x.client(), x.server()
		c.Before = handshake.Before{Ticket: ticket, Secret: h}
		x.refusedNew("before's secret", c, api.ErrArg)
		c.Before.Ticket, c.Secret = nil, h
		s.Trusted, s.Before = h, handshake.Before{Ticket: ticket, Secret: h}
		for _, good := range []handshake.Config{c, s} {
			if m, e := handshake.New(x.v, good, x.book); m == nil || e != api.OK {
				t.Errorf("what the side does not have is looked at: %d", int(e))
			}
		}
	}
}

// Any term may be a secret, or trusted: no public half, too.
func TestP13_1AnyTerm(t *testing.T) {
	x := newWorld(t)
	mark := x.both(func(v *vault.Vault) (vault.Handle, api.Errno) { return v.Sign(x.secret, nil) })
	for _, h := range []vault.Handle{x.v.Root(), x.secret, x.half, mark} {
		c, s := x.client(), x.server()
		c.Trusted, s.Secret = h, h
		c.Before = handshake.Before{Ticket: []byte{1}, Secret: h}
		for _, good := range []handshake.Config{c, s} {
			if m, e := handshake.New(x.v, good, x.book); m == nil || e != api.OK {
				t.Errorf("New of the term %x: %d", h, int(e))
			}
		}
	}
}

// A name of a term to come is refused until that term is made.
func TestP13_1TermToCome(t *testing.T) {
	v := vault.New()
	c := handshake.Config{Trusted: name(1), Protos: []string{"a"}}
	if m, e := handshake.New(v, c, nil); m != nil || e != api.ErrArg {
		t.Errorf("New = %v, %d", m, int(e))
	}
	v.Fresh()
	if m, e := handshake.New(v, c, nil); m == nil || e != api.OK {
		t.Errorf("New = %v, %d", m, int(e))
	}
}

// All that may be goes through a whole handshake, with a ticket and early data.
func TestP13_1Greatest(t *testing.T) {
	x := newWorld(t)
	c, s := x.client(), x.server()
	for _, side := range []*handshake.Config{&c, &s} {
		side.Name, side.Protos, side.Params, side.Life, side.Early = text(255), protos(8, 255), make([]byte, 4096), 1<<32-1, true
		slices.Reverse(side.Protos)
	}
	h := x.handshake(c, s)
	c.Before = h.before(true)
	if info := x.handshake(c, s).client.m.Info(); !info.Again || !info.Early || info.Proto != text(255) {
		t.Errorf("%v", info)
	}
	c.Before = handshake.Before{Ticket: make([]byte, 512), Secret: x.secret, Proto: text(255), Early: true}
	if info := x.handshake(c, s).client.m.Info(); info.Again || info.Early {
		t.Errorf("%v", info)
	}
}

// A machine has not begun, and makes no term before it does.
func TestP13_1NotBegun(t *testing.T) {
	x := newWorld(t)
	for _, c := range []handshake.Config{x.client(), x.server()} {
		a := x.side(c)
		for range 2 {
			for level := -1; level <= 4; level++ {
				a.take(level, nil)
				a.take(level, []byte{1})
			}
		}
		if a.m.Info() != (handshake.Info{}) {
			t.Errorf("Info = %v", a.m.Info())
		}
	}
}
