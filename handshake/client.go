package handshake

import (
	"slices"

	"caravel/api"
	"caravel/hello"
	"caravel/secrets"
	"caravel/vault"
)

// startClient says what a client begins with.
func (t *turn) startClient() {
	c := t.config
	m := hello.Message{Kind: hello.Client, Name: c.Name, Protos: c.Protos, Params: c.Params}
	m.Random = t.vault.Fresh()
	t.secret = t.vault.Fresh()
	m.Share = t.made(t.vault.Public(t.secret))
	var first vault.Handle
	if c.hasTicket() {
		first = t.made(secrets.Early(t.vault, c.Before.Secret))
		m.Ticket, m.Early = c.Before.Ticket, c.saysEarly()
		m.Binder = t.binder(first, m)
	}
	t.say(First, m)
	if m.Early {
		t.tellKey(WriteKey, Early, t.traffic(first, secrets.EarlyTraffic))
	}
	t.wants = wantsServer
}

// binder tells the binder of a client's message with a ticket.
func (t *turn) binder(first vault.Handle, m hello.Message) vault.Handle {
	bare, e := hello.Bare(m)
	t.check(e)
	return t.made(secrets.Bind(t.vault, first, bare))
}

func (t *turn) takeServer(m hello.Message, b []byte) error {
	var before vault.Handle
	if m.Again {
		if !t.config.hasTicket() {
			return alert(illegal)
		}
		before = t.config.Before.Secret
	}
	first := t.made(secrets.Early(t.vault, before))
	hand, err := t.agree(first, t.secret, m.Share)
	if err != nil {
		return err
	}
	t.hand = hand
	t.add(b)
	t.serverHand = t.traffic(hand, secrets.ServerHand)
	t.clientHand = t.traffic(hand, secrets.ClientHand)
	t.tellKey(ReadKey, Hand, t.serverHand)
	t.tellKey(WriteKey, Hand, t.clientHand)
	t.info.Again = m.Again
	t.wants = wantsExtensions
	return nil
}

func (t *turn) takeExtensions(m hello.Message, b []byte) error {
	proto := m.Protos[0]
	if !slices.Contains(t.config.Protos, proto) {
		return alert(noProto)
	}
	said := t.config.saysEarly()
	if m.Early && !(said && t.info.Again && proto == t.config.Before.Proto) {
		return alert(illegal)
	}
	t.add(b)
	t.tell(Event{Kind: Peer, Bytes: m.Params})
	if said {
		t.tellEarly(m.Early)
	}
	t.info.Proto, t.info.Early = proto, m.Early
	t.wants = wantsIdentity
	if t.info.Again { // who knows what was agreed before is who it was then
		t.wants = wantsServerFinished
	}
	return nil
}

func (t *turn) takeIdentity(m hello.Message, b []byte) error {
	switch {
	case m.Name != t.config.Name:
		return alert(otherName)
	case m.Mark != t.config.Trusted:
		return alert(untrusted)
	}
	t.add(b)
	t.wants = wantsProof
	return nil
}

func (t *turn) takeProof(m hello.Message, b []byte) error {
	if e := t.vault.Verify(t.config.Trusted, t.script[:], m.Mark); e != api.OK {
		return &wrong{unproven, e}
	}
	t.add(b)
	t.wants = wantsServerFinished
	return nil
}

func (t *turn) takeServerFinished(m hello.Message, b []byte) error {
	if m.Mark != t.mark(t.serverHand) {
		return alert(unproven)
	}
	t.add(b)
	t.master = t.made(secrets.Master(t.vault, t.hand))
	t.clientData = t.traffic(t.master, secrets.ClientData)
	t.serverData = t.traffic(t.master, secrets.ServerData)
	t.tellKey(WriteKey, Data, t.clientData)
	t.tellKey(ReadKey, Data, t.serverData)
	t.say(Hand, hello.Message{Kind: hello.Finished, Mark: t.mark(t.clientHand)})
	t.complete()
	t.wants = wantsTicket
	return nil
}

// takeTicket leaves the script as it is: each ticket is made of it as the client's Finished ended it.
func (t *turn) takeTicket(m hello.Message, _ []byte) error {
	secret := t.made(secrets.Resume(t.vault, t.master, t.info.Script, m.Ticket))
	t.tell(Event{Kind: Session, Bytes: m.Ticket, Secret: secret})
	return nil
}
