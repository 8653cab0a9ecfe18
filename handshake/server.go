package handshake

import (
	"slices"

	"caravel/api"
	"caravel/hello"
	"caravel/secrets"
	"caravel/vault"
)

func (t *turn) takeClient(m hello.Message, b []byte) error {
	if m.Name != t.config.Name {
		return alert(otherName)
	}
	proto, ok := t.choose(m.Protos)
	if !ok {
		return alert(noProto)
	}
	first, known, again, err := t.remember(m)
	if err != nil {
		return err
	}
	early := again && m.Early && t.config.Early && known.early && !known.came && known.proto == proto
	t.info = Info{Proto: proto, Again: again, Early: early}
	if early {
		known.came = true
		t.note(m.Ticket, known)
	}
	t.tell(Event{Kind: Peer, Bytes: m.Params})
	if err := t.answer(first, m, b); err != nil {
		return err
	}
	t.prove()
	t.wants = wantsClientFinished
	return nil
}

// choose tells the first proto of the server's own that a client said.
func (t *turn) choose(said []string) (proto string, ok bool) {
	for _, own := range t.config.Protos {
		if slices.Contains(said, own) {
			return own, true
		}
	}
	return "", false
}

// remember tells the first secret, and what the book has for a client's ticket, if it has something (again).
func (t *turn) remember(m hello.Message) (first vault.Handle, known entry, again bool, err error) {
	first = t.made(secrets.Early(t.vault, vault.Handle{}))
	known, again = t.book.entries[string(m.Ticket)]
	if !again {
		return first, entry{}, false, nil
	}
	first, e := secrets.Early(t.vault, known.secret)
	if e != api.OK { // the book is another vault's, too, and the entry is of that one: no binder is its
		return vault.Handle{}, entry{}, false, &wrong{unproven, e}
	}
	if m.Binder != t.binder(first, m) {
		return vault.Handle{}, entry{}, false, alert(unproven)
	}
	return first, known, true, nil
}

// answer agrees with the client, says the server's part of it, and tells the keys that come of it, early data's too.
func (t *turn) answer(first vault.Handle, m hello.Message, b []byte) error {
	random, secret := t.vault.Fresh(), t.vault.Fresh()
	share := t.made(t.vault.Public(secret))
	hand, err := t.agree(first, secret, m.Share)
	if err != nil {
		return err
	}
	t.hand = hand
	t.add(b)
	var early vault.Handle
	if t.info.Early {
		early = t.traffic(first, secrets.EarlyTraffic)
	}
	t.say(First, hello.Message{Kind: hello.Server, Random: random, Share: share, Again: t.info.Again})
	t.serverHand = t.traffic(hand, secrets.ServerHand)
	t.clientHand = t.traffic(hand, secrets.ClientHand)
	t.tellKey(WriteKey, Hand, t.serverHand)
	t.tellKey(ReadKey, Hand, t.clientHand)
	if t.info.Early {
		t.tellKey(ReadKey, Early, early)
	}
	if m.Early {
		t.tellEarly(t.info.Early)
	}
	return nil
}

// prove says all that a server says at Hand: who it is only if nothing was agreed before, since else that shows it.
func (t *turn) prove() {
	c := t.config
	t.say(Hand, hello.Message{Kind: hello.Extensions, Protos: []string{t.info.Proto}, Params: c.Params, Early: t.info.Early})
	if !t.info.Again {
		t.say(Hand, hello.Message{Kind: hello.Identity, Name: c.Name, Mark: t.made(t.vault.Public(c.Secret))})
		t.say(Hand, hello.Message{Kind: hello.Proof, Mark: t.made(t.vault.Sign(c.Secret, t.script[:]))})
	}
	t.say(Hand, hello.Message{Kind: hello.Finished, Mark: t.mark(t.serverHand)})
	t.master = t.made(secrets.Master(t.vault, t.hand))
	t.serverData = t.traffic(t.master, secrets.ServerData)
	t.clientData = t.traffic(t.master, secrets.ClientData)
	t.tellKey(WriteKey, Data, t.serverData)
}

func (t *turn) takeClientFinished(m hello.Message, b []byte) error {
	if m.Mark != t.mark(t.clientHand) {
		return alert(unproven)
	}
	t.add(b)
	t.tellKey(ReadKey, Data, t.clientData)
	t.complete()
	if t.config.Life > 0 {
		t.giveTicket()
	}
	t.wants = wantsNothing
	return nil
}

// giveTicket says a ticket, and notes what is agreed by it.
func (t *turn) giveTicket() {
	c := t.config
	name := t.vault.Fresh()
	secret := t.made(secrets.Resume(t.vault, t.master, t.script, name[:]))
	t.note(name[:], entry{secret: secret, proto: t.info.Proto, early: c.Early})
	t.say(Data, hello.Message{Kind: hello.Ticket, Life: c.Life, Ticket: name[:], Early: c.Early})
}
