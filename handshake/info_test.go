package handshake_test

import (
	"testing"

	"caravel/handshake"
	"caravel/hello"
)

// steps asks for Info behind each message of a played peer.
func steps(t *testing.T, a pair, want []handshake.Info) {
	t.Helper()
	for i, info := range want {
		if i > 0 {
			a.goes(1)
		}
		if info.Done {
			if got := a.m.Info(); got.Script != a.p.told.Script || got.Client == got.Server || !a.v.Known(got.Script) || !a.v.Known(got.Client) || !a.v.Known(got.Server) {
				t.Fatalf("behind %d: %v", i, got)
			}
			info.Script, info.Client, info.Server = a.p.told.Script, a.p.told.Client, a.p.told.Server
		}
		for range 2 {
			if got := a.m.Info(); got != info {
				t.Fatalf("behind %d: %v, not %v", i, got, info)
			}
		}
	}
}

func TestP13_6Client(t *testing.T) {
	x := newWorld(t)
	none, told, done := handshake.Info{}, handshake.Info{Proto: "a"}, handshake.Info{Done: true, Proto: "a"}
	steps(t, x.begun(x.client()), []handshake.Info{none, none, told, told, told, done, done, done})
}

func TestP13_6ClientAgain(t *testing.T) {
	x := newWorld(t)
	none, again := handshake.Info{}, handshake.Info{Again: true}
	told := handshake.Info{Proto: "a", Again: true, Early: true}
	done := told
	done.Done = true
	steps(t, x.begun(x.resumed()), []handshake.Info{none, again, told, done, done})
}

func TestP13_6Server(t *testing.T) {
	x := newWorld(t)
	none, told, done := handshake.Info{}, handshake.Info{Proto: "a"}, handshake.Info{Done: true, Proto: "a"}
	steps(t, x.begun(x.server()), []handshake.Info{none, told, done})
}

func TestP13_6ServerAgain(t *testing.T) {
	x, c, s := earlyWorld(t)
	b := said(x.side(c).start(), handshake.First)
	server := x.begun(s)
	server.take(handshake.First, b)
	if info := server.m.Info(); info != (handshake.Info{Proto: "a", Again: true, Early: true}) {
		t.Errorf("%v", info)
	}
}

// A step that is refused changes nothing that Info tells, nor do those ahead of it in the same call.
func TestP13_6Refused(t *testing.T) {
	x := newWorld(t)
	a := x.at(x.client(), 1)
	extensions := a.put(a.plays(hello.Extensions))
	a.refused(handshake.Hand, append(extensions, a.put(hello.Message{Kind: hello.Identity})...), 112)
	if a.m.Info() != (handshake.Info{}) {
		t.Errorf("%v", a.m.Info())
	}
	a = x.at(x.resumed(), 0)
	a.refused(handshake.First, a.changed(func(m *hello.Message) { m.Share = x.secret }), 47)
	if a.m.Info() != (handshake.Info{}) {
		t.Errorf("%v", a.m.Info())
	}
	a = x.at(x.resumed(), 1)
	a.refused(handshake.Hand, a.changed(func(m *hello.Message) { m.Protos = []string{"b"} }), 47)
	if a.m.Info() != (handshake.Info{Again: true}) {
		t.Errorf("%v", a.m.Info())
	}
}

// The script is that up to the client's Finished, the same for both; a ticket is not in it. The secrets are those of the data's keys.
func TestP13_6Script(t *testing.T) {
	x := newWorld(t)
	for range 2 {
		c := x.client()
		for range 2 {
			h := x.handshake(c, x.server())
			info := h.client.m.Info()
			if info.Script != h.client.p.script || info.Script == h.server.p.script { // the server's has its ticket, too
				t.Errorf("the script is %x", info.Script)
			}
			if h.ends[len(h.ends)-4].Secret != info.Client || h.ends[len(h.ends)-3].Secret != info.Server || h.answer[len(h.answer)-1].Secret != info.Server || h.last[0].Secret != info.Client {
				t.Errorf("the secrets are others than the keys'")
			}
			c.Before = h.before(false)
		}
	}
}
