package secrets_test

import (
	"math/rand"
	"slices"
	"testing"

	"caravel/secrets"
	"caravel/vault"
)

// side is one side of a handshake: the secret that it agrees by, and what it makes for itself.
type side struct {
	t      *testing.T
	v      *vault.Vault
	secret vault.Handle
	script vault.Handle
	early  vault.Handle
	hand   vault.Handle
	master vault.Handle
	// the traffic: of early data, of both hands, of both data
	traffic map[string]vault.Handle
}

func newSide(t *testing.T, v *vault.Vault, before vault.Handle) *side {
	t.Helper()
	is := term(t)
	return &side{t: t, v: v, secret: v.Fresh(), script: is(secrets.Begin(v)), early: is(secrets.Early(v, before)), traffic: map[string]vault.Handle{}}
}

// half tells a side's public half.
func (s *side) half() vault.Handle {
	s.t.Helper()
	return term(s.t)(s.v.Public(s.secret))
}

// hears adds what was said, whoever said it.
func (s *side) hears(message []byte) {
	s.t.Helper()
	s.script = term(s.t)(secrets.Add(s.v, s.script, message))
}

func (s *side) keep(label string, secret vault.Handle) {
	s.t.Helper()
	s.traffic[label] = term(s.t)(secrets.Traffic(s.v, secret, label, s.script))
}

// agrees makes the handshake's secret with a public half that was said.
func (s *side) agrees(half vault.Handle) {
	s.t.Helper()
	is := term(s.t)
	s.hand = is(secrets.Hand(s.v, s.early, is(s.v.Agree(s.secret, half))))
	s.keep(secrets.ClientHand, s.hand)
	s.keep(secrets.ServerHand, s.hand)
}

// ends makes the last secret.
func (s *side) ends() {
	s.t.Helper()
	s.master = term(s.t)(secrets.Master(s.v, s.hand))
	s.keep(secrets.ClientData, s.master)
	s.keep(secrets.ServerData, s.master)
}

// made is all that a side made of what both agreed on.
func (s *side) made() (list []vault.Handle) {
	list = []vault.Handle{s.hand, s.master}
	for _, label := range []string{secrets.ClientHand, secrets.ServerHand, secrets.ClientData, secrets.ServerData} {
		list = append(list, s.traffic[label])
	}
	return list
}

// talk is a handshake of two sides.
type talk struct {
	t              *testing.T
	v              *vault.Vault
	before         vault.Handle
	client, server *side
	seen           [][]byte       // all that was said: messages, marks and tickets as they are, and texts that were sealed
	marks          []vault.Handle // the server's, then the client's
	next           vault.Handle   // what is agreed for the next time
}

// say has both sides hear a message.
func (x *talk) say(pieces ...[]byte) {
	x.t.Helper()
	message := slices.Concat(pieces...)
	x.client.hears(message)
	x.server.hears(message)
	x.seen = append(x.seen, message)
}

// finish says the mark of a direction, which both sides must make alike.
func (x *talk) finish(label string) {
	x.t.Helper()
	is := term(x.t)
	m := is(secrets.Mark(x.v, x.client.traffic[label], x.client.script))
	if is(secrets.Mark(x.v, x.server.traffic[label], x.server.script)) != m {
		x.t.Fatal("the sides have other marks")
	}
	x.say([]byte("finished"), m[:])
	x.marks = append(x.marks, m)
}

// sealAll seals a text by each direction's secret.
func (x *talk) sealAll() {
	x.t.Helper()
	for _, h := range x.client.made()[2:] {
		b, _ := x.v.Seal(h, 1, nil, []byte("text"))
		x.seen = append(x.seen, b)
	}
}

// newTalk goes through a handshake, with what was agreed before (the zero handle: nothing).
func newTalk(t *testing.T, v *vault.Vault, before vault.Handle) *talk {
	t.Helper()
	is := term(t)
	x := &talk{t: t, v: v, before: before, client: newSide(t, v, before), server: newSide(t, v, before)}
	random, one, two := v.Fresh(), x.client.half(), x.server.half()
	bare := slices.Concat([]byte("client"), random[:], one[:])
	binder := is(secrets.Bind(v, x.client.early, bare))
	if is(secrets.Bind(v, x.server.early, bare)) != binder {
		t.Fatal("the sides have other binders")
	}
	x.say(bare, binder[:])
	x.client.keep(secrets.EarlyTraffic, x.client.early)
	x.server.keep(secrets.EarlyTraffic, x.server.early)
	x.say([]byte("server"), two[:])
	x.client.agrees(two)
	x.server.agrees(one)
	x.finish(secrets.ServerHand)
	x.client.ends()
	x.server.ends()
	x.finish(secrets.ClientHand)
	ticket := v.Fresh()
	x.next = is(secrets.Resume(v, x.client.master, x.client.script, ticket[:]))
	if is(secrets.Resume(v, x.server.master, x.server.script, ticket[:])) != x.next {
		t.Fatal("the sides agree on something else for the next time")
	}
	x.seen = append(x.seen, ticket[:], x.client.script[:])
	x.sealAll()
	return x
}

// hides asks whether terms are hidden, each of them, from who sees all that was said, and more.
func (x *talk) hides(what string, want bool, list []vault.Handle, more ...vault.Handle) {
	x.t.Helper()
	seen := slices.Clone(x.seen)
	for _, h := range more {
		seen = append(seen, h[:])
	}
	for i, h := range list {
		if got := x.v.Hidden(h[:], seen); got != want {
			x.t.Fatalf("%s: term %d is hidden: %v", what, i, got)
		}
	}
}

// spied asks how many texts who sees all that was said, and more, comes to know.
func (x *talk) spied(what string, want int, more ...vault.Handle) {
	x.t.Helper()
	seen := slices.Clone(x.seen)
	for _, h := range more {
		seen = append(seen, h[:])
	}
	if got := x.v.Spied(seen); len(got) != want {
		x.t.Fatalf("%s: %d texts are known, not %d", what, len(got), want)
	}
}

// Two sides that agreed have the same secrets, all of them, of which no two are the same.
func TestP12_4Agreed(t *testing.T) {
	v := vault.New()
	var list []vault.Handle
	for _, before := range []vault.Handle{{}, v.Fresh()} {
		x := newTalk(t, v, before)
		c, s := x.client, x.server
		if c.script != s.script || c.early != s.early || !slices.Equal(c.made(), s.made()) || c.traffic[secrets.EarlyTraffic] != s.traffic[secrets.EarlyTraffic] {
			t.Errorf("the client has %x, the server %x", c.made(), s.made())
		}
		list = append(append(list, c.made()...), c.early, c.traffic[secrets.EarlyTraffic], x.next)
	}
	differ(t, "secrets", list)
}

// Who saw all that was said, and knows nothing else: the script, the marks, and none of the secrets.
func TestP12_4Nobody(t *testing.T) {
	v := vault.New()
	for _, before := range []vault.Handle{{}, v.Fresh()} {
		x := newTalk(t, v, before)
		c := x.client
		x.hides("made", true, c.made())
		x.hides("the next time's", true, []vault.Handle{x.next})
		x.hides("the sides' own", true, []vault.Handle{c.secret, x.server.secret})
		x.hides("what was said", false, append(x.marks, c.script, c.half(), x.server.half()))
		x.spied("nobody", 0)
		// of nothing the first secret is everybody's; of what was agreed before it is nobody's
		secret := before != vault.Handle{}
		x.hides("early", secret, []vault.Handle{c.early, c.traffic[secrets.EarlyTraffic]})
	}
}

// What was agreed before tells the first secret, early data and the binder: not what the two secrets agreed on since.
func TestP12_4Before(t *testing.T) {
	v := vault.New()
	x := newTalk(t, v, v.Fresh())
	c := x.client
	x.hides("early", false, []vault.Handle{c.early, c.traffic[secrets.EarlyTraffic]}, x.before)
	x.hides("made", true, c.made(), x.before)
	x.hides("the next time's", true, []vault.Handle{x.next}, x.before)
	x.spied("before", 0, x.before)
	// the other way round, the first secret does not tell what it was made of
	x.hides("before", true, []vault.Handle{x.before}, c.early, c.traffic[secrets.EarlyTraffic])
}

// One side's secret, whichever, tells all that was made of what both agreed on; not what was agreed before.
func TestP12_4OneSide(t *testing.T) {
	v := vault.New()
	for _, before := range []vault.Handle{{}, v.Fresh()} {
		x := newTalk(t, v, before)
		c := x.client
		for _, secret := range []vault.Handle{c.secret, x.server.secret} {
			x.hides("made", false, append(c.made(), x.next), secret)
			x.spied("one side's", 4, secret)
			if (before != vault.Handle{}) {
				x.hides("before", true, []vault.Handle{before, c.early, c.traffic[secrets.EarlyTraffic]}, secret)
				x.hides("before", false, []vault.Handle{c.early, c.traffic[secrets.EarlyTraffic]}, secret, before)
			}
		}
		x.hides("the server's", true, []vault.Handle{x.server.secret}, c.secret)
		x.hides("the client's", true, []vault.Handle{c.secret}, x.server.secret)
	}
}

// What follows from a secret in the middle is known with it, and nothing ahead of it.
func TestP12_4Middle(t *testing.T) {
	v := vault.New()
	x := newTalk(t, v, vault.Handle{})
	made := x.client.made()
	hand, master, hands, data := made[:1], made[1:2], made[2:4], made[4:]
	all := append(slices.Clone(made), x.next)
	x.hides("of hand", false, all, hand[0])
	x.hides("ahead of master", true, append(slices.Clone(hand), hands...), master[0])
	x.hides("of master", false, append(slices.Clone(data), x.next), master[0])
	x.spied("master", 2, master[0])
	for _, h := range made[2:] {
		others := slices.DeleteFunc(slices.Clone(all), func(o vault.Handle) bool { return o == h })
		x.hides("beside one direction's", true, others, h)
		x.spied("one direction's", 1, h)
		mark := []vault.Handle{term(t)(secrets.Mark(v, h, x.client.script))} // one that was not said
		x.hides("another mark", true, mark)
		x.hides("its mark", false, mark, h)
	}
	x.hides("ahead of what is agreed next", true, made, x.next)
	x.spied("next", 0, x.next)
}

// Of another talk's secrets nothing follows for this one, though one side is the same, or somebody speaks with both.
func TestP12_4OtherTalk(t *testing.T) {
	v, is := vault.New(), term(t)
	x, y := newTalk(t, v, vault.Handle{}), newTalk(t, v, vault.Handle{})
	others := append(y.client.made(), y.client.secret, y.server.secret, y.next)
	x.hides("another talk's", true, append(x.client.made(), x.next), others...)
	evil := v.Fresh()
	half := is(v.Public(evil))
	for _, s := range []*side{x.client, x.server} {
		mine := is(secrets.Hand(v, s.early, is(v.Agree(evil, s.half()))))
		if mine != is(secrets.Hand(v, s.early, is(v.Agree(s.secret, half)))) {
			t.Error("who speaks with a side has other secrets than it")
		}
		last := is(secrets.Master(v, mine))
		x.hides("one's own", false, []vault.Handle{mine, last, is(secrets.Traffic(v, last, secrets.ClientData, s.script))}, evil)
	}
	x.hides("in the middle", true, append(x.client.made(), x.next), evil)
	x.spied("in the middle", 0, evil)
}

// What one talk agreed on for the next time: a talk behind it, and one behind that, each with secrets of its own.
func TestP12_4NextTime(t *testing.T) {
	v := vault.New()
	x := newTalk(t, v, vault.Handle{})
	y := newTalk(t, v, x.next)
	z := newTalk(t, v, y.next)
	all := slices.Concat(x.seen, y.seen, z.seen)
	x.seen, y.seen, z.seen = all, all, all
	for _, talk := range []*talk{x, y, z} {
		talk.hides("made", true, append(talk.client.made(), talk.next))
	}
	y.hides("early of the first's", false, []vault.Handle{y.client.early}, x.client.secret)
	y.hides("made", true, append(y.client.made(), y.next), x.client.secret, x.server.secret)
	z.hides("early of the first's", true, []vault.Handle{z.client.early}, x.client.secret, x.server.secret)
	x.hides("ahead", true, append(x.client.made(), x.next), y.client.secret, z.client.secret)
	z.hides("early of the second's", false, []vault.Handle{z.client.early}, y.server.secret)
}

// Talks by chance, each with what an earlier one agreed on or nothing; and somebody who knows some of the sides' secrets, and of what was agreed.
func TestP12_4Random(t *testing.T) {
	random := rand.New(rand.NewSource(12))
	for range 60 {
		v := vault.New()
		agreed := []vault.Handle{{}, v.Fresh()}
		var talks []*talk
		for range 1 + random.Intn(5) {
			x := newTalk(t, v, agreed[random.Intn(len(agreed))])
			talks, agreed = append(talks, x), append(agreed, x.next)
		}
		var seen [][]byte
		for _, x := range talks {
			seen = append(seen, x.seen...)
		}
		var more []vault.Handle
		broken := map[*talk]bool{}
		for _, x := range talks {
			x.seen = seen
			switch random.Intn(4) {
			case 0:
				more, broken[x] = append(more, x.client.secret), true
			case 1:
				more, broken[x] = append(more, x.server.secret), true
			case 2:
				more = append(more, x.before)
			}
		}
		for _, x := range talks {
			x.hides("by chance", !broken[x], x.client.made(), more...)
		}
		talks[0].spied("by chance", 4*len(broken), more...)
	}
}
