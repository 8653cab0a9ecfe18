package handshake_test

import (
	"bytes"
	"math/rand"
	"slices"
	"testing"

	"caravel/handshake"
	"caravel/hello"
	"caravel/vault"
)

// The example: the events of each call.
func TestP13_7Example(t *testing.T) {
	x := newWorld(t)
	s := x.server()
	s.Life = 0
	h := x.handshake(x.client(), s)
	for i, c := range []struct{ got, want []int }{
		{kinds(h.first), []int{handshake.Say}},
		{kinds(h.answer), []int{handshake.Peer, handshake.Say, handshake.WriteKey, handshake.ReadKey, handshake.Say, handshake.Say, handshake.Say, handshake.Say, handshake.WriteKey}},
		{kinds(h.hands), []int{handshake.ReadKey, handshake.WriteKey}},
		{kinds(h.ends), []int{handshake.Peer, handshake.WriteKey, handshake.ReadKey, handshake.Say, handshake.Complete}},
		{kinds(h.last), []int{handshake.ReadKey, handshake.Complete}},
		{kinds(h.at), nil},
	} {
		if !slices.Equal(c.got, c.want) {
			t.Errorf("call %d: %v, not %v", i, c.got, c.want)
		}
	}
}

// keys tells the secrets of keys, by what they are for.
func keys(lists ...[]handshake.Event) map[[2]int]vault.Handle {
	all := map[[2]int]vault.Handle{}
	for _, l := range lists {
		for _, e := range l {
			if e.Kind == handshake.WriteKey || e.Kind == handshake.ReadKey {
				all[[2]int{e.Kind, e.Level}] = e.Secret
			}
		}
	}
	return all
}

// agree asks that one side reads by what the other one writes by, and that all keys are unlike.
func (h talk) agree(t *testing.T, early bool) {
	t.Helper()
	client, server := keys(h.first, h.hands, h.ends), keys(h.answer, h.last)
	seen := map[vault.Handle]bool{}
	for _, level := range []int{handshake.Hand, handshake.Data} {
		to, from := client[[2]int{handshake.WriteKey, level}], client[[2]int{handshake.ReadKey, level}]
		if to != server[[2]int{handshake.ReadKey, level}] || from != server[[2]int{handshake.WriteKey, level}] {
			t.Errorf("the keys of level %d are unlike", level)
		}
		seen[to], seen[from] = true, true
	}
	if early {
		seen[client[[2]int{handshake.WriteKey, handshake.Early}]] = true
		if client[[2]int{handshake.WriteKey, handshake.Early}] != server[[2]int{handshake.ReadKey, handshake.Early}] {
			t.Error("the keys of early data are unlike")
		}
	}
	if len(seen) != 4+btoi(early) || seen[vault.Handle{}] {
		t.Errorf("there are %d keys", len(seen))
	}
}

// Handshakes one behind the other, with and without what they may have: both sides come to the same, and have each other's parameters.
func TestP13_7Whole(t *testing.T) {
	for bits := range 128 {
		x := newWorld(t)
		c, s := x.client(), x.server()
		c.Early, s.Early = bits&1 != 0, bits&2 != 0
		for n := range 3 {
			if bits&(4<<n) != 0 {
				c.Params, s.Params = nil, nil
			}
			if bits&(32<<n) != 0 && n < 2 {
				s.Protos = []string{"b", "a"}
			}
			h := x.handshake(c, s)
			h.agree(t, h.server.m.Info().Early)
			if !bytes.Equal(h.answer[0].Bytes, c.Params) || !bytes.Equal(h.ends[0].Bytes, s.Params) {
				t.Errorf("%07b: other parameters", bits)
			}
			c.Before = h.before(true)
		}
	}
}

// Two handshakes have nothing in common, nor have their sessions.
func TestP13_7Apart(t *testing.T) {
	x := newWorld(t)
	seen := map[vault.Handle]int{}
	c := x.client()
	for i := range 6 {
		h := x.handshake(c, x.server())
		info := h.client.m.Info()
		for _, secret := range []vault.Handle{info.Script, info.Client, info.Server, h.at[0].Secret} {
			if j, ok := seen[secret]; ok {
				t.Errorf("%d and %d both have %x", j, i, secret)
			}
			seen[secret] = i
		}
		if i > 1 {
			c.Before = h.before(true)
		}
	}
}

// Who sees all that is said comes to know no key, and nothing of what is agreed for the next time.
func TestP13_7Hidden(t *testing.T) {
	x := newWorld(t)
	c, s := x.client(), x.server()
	c.Early, s.Early = true, true
	var seen [][]byte
	var secrets []vault.Handle
	for range 3 {
		h := x.handshake(c, s)
		for _, l := range [][]handshake.Event{h.first, h.answer, h.hands, h.ends, h.last, h.at} {
			for _, e := range l {
				if e.Kind == handshake.Say {
					seen = append(seen, e.Bytes)
				}
				if e.Secret != (vault.Handle{}) {
					secrets = append(secrets, e.Secret)
				}
			}
		}
		c.Before = h.before(true)
	}
	if len(secrets) < 20 {
		t.Fatalf("%d secrets", len(secrets))
	}
	for _, secret := range secrets {
		if !x.v.Hidden(secret[:], seen) {
			t.Errorf("%x is known", secret)
		}
	}
	if x.v.Hidden(x.half[:], seen) || !x.v.Hidden(x.secret[:], seen) {
		t.Error("the server's half is hidden, or its secret is not")
	}
}

// A server that is none: it has its own share, and knows all that was said, but not the secret.
func TestP13_7Impostor(t *testing.T) {
	x := newWorld(t)
	honest := x.at(x.client(), 3)
	old := honest.honest(hello.Proof) // of another client's handshake
	own := x.fresh()
	for _, proof := range [][]byte{old, nil} {
		a := x.at(x.client(), 3) // up to Identity nothing is proven
		if proof == nil {
			proof = x.put(hello.Message{Kind: hello.Proof, Mark: x.sign(own, a.p.script)})
		}
		a.refused(handshake.Hand, proof, 51)
	}
	a := x.at(x.client(), 2) // one that leaves out who it is
	a.refused(handshake.Hand, a.honest(hello.Finished), 10)
}

// line is what came of one side's saying, by levels, and what the other took.
type line struct {
	a     pair
	said  [4][][]byte
	next  [4]int // which of the peer's messages comes next
	took  [4][]byte
	taint bool
}

// tell keeps what a side says.
func (n *line) tell(l []handshake.Event) {
	for _, e := range l {
		if e.Kind == handshake.Say {
			n.said[e.Level] = append(n.said[e.Level], bytes.Clone(e.Bytes))
		}
	}
}

// give hands bytes to a side, in two pieces.
func (n *line) give(random *rand.Rand, level int, b []byte) {
	at := random.Intn(len(b) + 1)
	for _, piece := range [][]byte{b[:at], b[at:]} {
		n.tell(n.a.take(level, piece))
		if n.a.p.closed == nil {
			n.took[level] = append(n.took[level], piece...)
		}
	}
}

// spoilt is a message with something else in it, or another one.
func spoilt(random *rand.Rand, b []byte, all []*line) []byte {
	b = bytes.Clone(b)
	switch random.Intn(5) {
	case 0:
		b[random.Intn(len(b))] ^= 1 << random.Intn(8)
	case 1:
		return b[:random.Intn(len(b))]
	case 2:
		return append(b, b[:random.Intn(len(b))]...)
	case 3:
		at := random.Intn(len(b))
		other := vault.New().Root()
		copy(b[at:], other[:])
	case 4:
		from := all[random.Intn(len(all))].said[random.Intn(4)]
		if len(from) > 0 {
			return bytes.Clone(from[random.Intn(len(from))])
		}
	}
	return b
}

// Two handshakes at once, whatever becomes of what is said: each call is held against the chapter's words, and in the end the sides agree.
func TestP13_7Random(t *testing.T) {
	random := rand.New(rand.NewSource(1))
	done := [3]int{} // how many clients: of none, of honest, of spoilt talks
	for run := range 1500 {
		x, c, s := earlyWorld(t)
		bare := x.client()
		all := []*line{{a: x.side(c)}, {a: x.side(s)}, {a: x.side([]handshake.Config{c, bare}[run%2])}, {a: x.side(s)}}
		for _, n := range all {
			n.tell(n.a.start())
		}
		rate := []int{0, 3, 12}[random.Intn(3)]
		for range 40 {
			i := random.Intn(len(all))
			n, peer := all[i], all[i^1]
			level := n.a.p.expected().level
			if level < 0 || n.next[level] >= len(peer.said[level]) {
				continue
			}
			b := peer.said[level][n.next[level]]
			n.next[level]++
			if rate > 0 && random.Intn(100) < rate {
				b = spoilt(random, b, all)
				n.taint = true
			}
			n.give(random, level, b)
		}
		for i := 0; i < len(all); i += 2 {
			if all[i].a.m.Info().Done {
				done[1+btoi(all[i].taint)]++
			} else {
				done[0]++
			}
			agreed(t, all[i], all)
		}
	}
	if done[1] < 500 || done[0] < 100 || done[2] < 1 {
		t.Errorf("too few of a kind: %v", done)
	}
}

// agreed asks of a client that is done that a server said what it took, and that each side with its script came to the same.
func agreed(t *testing.T, client *line, all []*line) {
	t.Helper()
	info := client.a.m.Info()
	if !info.Done {
		return
	}
	honest := false
	for i, n := range all {
		other := n.a.m.Info()
		if other.Done && other.Script == info.Script && other != info {
			t.Errorf("one script, but %v and %v", info, other)
		}
		if i%2 == 1 && bytes.Equal(slices.Concat(n.said[handshake.First]...), client.took[handshake.First]) &&
			bytes.HasPrefix(slices.Concat(client.took[handshake.Hand]), slices.Concat(n.said[handshake.Hand]...)) {
			honest = true
		}
	}
	if !honest {
		t.Errorf("no server said what the client took")
	}
}
