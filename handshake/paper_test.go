package handshake_test

import (
	"slices"

	"caravel/api"
	"caravel/handshake"
	"caravel/hello"
	"caravel/secrets"
	"caravel/vault"
)

// page is what a book has for a ticket.
type page struct {
	secret        vault.Handle
	proto         string
	early, served bool
}

// paper is a side by the chapter's words: it takes messages one by one, and makes its terms in the world's second vault.
type paper struct {
	x *world
	c handshake.Config

	begun  bool
	closed *api.Close
	rest   [4][]byte
	taken  []int // kinds of messages

	script, secret, hand, master vault.Handle
	serverHand, clientHand       vault.Handle
	serverData, clientData       vault.Handle
	now, told                    handshake.Info

	events []handshake.Event
	noted  map[string]page
}

// place is a message that is expected.
type place struct{ level, kind int }

// places are what a side expects, one behind the other.
func (p *paper) places() []place {
	switch {
	case p.c.Server:
		return []place{{handshake.First, hello.Client}, {handshake.Hand, hello.Finished}}
	case p.now.Again:
		return []place{{handshake.First, hello.Server}, {handshake.Hand, hello.Extensions}, {handshake.Hand, hello.Finished}}
	}
	return []place{{handshake.First, hello.Server}, {handshake.Hand, hello.Extensions}, {handshake.Hand, hello.Identity}, {handshake.Hand, hello.Proof}, {handshake.Hand, hello.Finished}}
}

func (p *paper) expected() place {
	list := p.places()
	switch {
	case len(p.taken) < len(list):
		return list[len(p.taken)]
	case p.c.Server:
		return place{-1, -1}
	}
	return place{handshake.Data, hello.Ticket}
}

func (p *paper) start() ([]handshake.Event, error) {
	if p.begun {
		return nil, api.ErrState
	}
	p.begun, p.events = true, nil
	p.script = p.x.make(secrets.Begin)
	if !p.c.Server {
		p.opens()
	}
	return p.events, nil
}

func (p *paper) take(level int, b []byte) ([]handshake.Event, error) {
	switch {
	case !p.begun:
		return nil, api.ErrState
	case p.closed != nil:
		return nil, p.closed
	case level != 0 && level != 2 && level != 3:
		return nil, api.ErrArg
	}
	p.events, p.now, p.noted = nil, p.told, map[string]page{}
	if p.closed = p.takeAll(level, slices.Concat(p.rest[level], b)); p.closed != nil {
		return nil, p.closed
	}
	p.told = p.now
	for ticket, of := range p.noted {
		p.x.pages[ticket] = of
	}
	return p.events, nil
}

func (p *paper) takeAll(level int, came []byte) *api.Close {
	if len(came) > 65536 {
		return &api.Close{Code: 13, Err: 3}
	}
	for len(came) > 0 {
		if p.expected().level != level {
			return closedBy(10)
		}
		m, next, e := hello.Read(came, 0)
		if e == api.ErrEnd {
			break
		}
		if e != api.OK {
			return closedBy(50)
		}
		if m.Kind != p.expected().kind {
			return closedBy(10)
		}
		if alert := p.step(m, came[:next]); alert != 0 {
			return closedBy(alert)
		}
		p.taken = append(p.taken, m.Kind)
		came = came[next:]
	}
	p.rest[level] = came
	return nil
}

// closedBy is how a machine is closed with an alert.
func closedBy(alert int) *api.Close { return &api.Close{Code: 256 + alert, Err: 41} }

// step takes a message of the expected kind, and tells the alert, if it is refused.
func (p *paper) step(m hello.Message, b []byte) (alert int) {
	switch m.Kind {
	case hello.Client:
		return p.clients(m, b)
	case hello.Server:
		return p.servers(m, b)
	case hello.Extensions:
		return p.extensions(m, b)
	case hello.Identity:
		return p.identity(m, b)
	case hello.Proof:
		return p.proof(m, b)
	case hello.Finished:
		if p.c.Server {
			return p.clientsFinished(m, b)
		}
		return p.serversFinished(m, b)
	}
	return p.ticket(m)
}

// The terms, as layer 12 makes them.

func (p *paper) add(b []byte) {
	s := p.script
	b = slices.Clone(b)
	p.script = p.x.make(func(v *vault.Vault) (vault.Handle, api.Errno) { return secrets.Add(v, s, b) })
}

func (p *paper) public(secret vault.Handle) vault.Handle {
	return p.x.make(func(v *vault.Vault) (vault.Handle, api.Errno) { return v.Public(secret) })
}

func (p *paper) early(before vault.Handle) vault.Handle {
	return p.x.make(func(v *vault.Vault) (vault.Handle, api.Errno) { return secrets.Early(v, before) })
}

func (p *paper) bind(early vault.Handle, m hello.Message) vault.Handle {
	bare, _ := hello.Bare(m)
	return p.x.make(func(v *vault.Vault) (vault.Handle, api.Errno) { return secrets.Bind(v, early, bare) })
}

func (p *paper) traffic(secret vault.Handle, label string) vault.Handle {
	s := p.script
	return p.x.make(func(v *vault.Vault) (vault.Handle, api.Errno) { return secrets.Traffic(v, secret, label, s) })
}

func (p *paper) mark(traffic vault.Handle) vault.Handle {
	s := p.script
	return p.x.make(func(v *vault.Vault) (vault.Handle, api.Errno) { return secrets.Mark(v, traffic, s) })
}

func (p *paper) resume(ticket []byte) vault.Handle {
	master, s := p.master, p.now.Script
	return p.x.make(func(v *vault.Vault) (vault.Handle, api.Errno) { return secrets.Resume(v, master, s, ticket) })
}

func (p *paper) makeMaster() {
	hand := p.hand
	p.master = p.x.make(func(v *vault.Vault) (vault.Handle, api.Errno) { return secrets.Master(v, hand) })
}

// agrees makes the handshake's secret, if the share is one.
func (p *paper) agrees(first, secret, share vault.Handle) bool {
	if _, e := p.x.w.Agree(secret, share); e != api.OK {
		return false
	}
	shared := p.x.make(func(v *vault.Vault) (vault.Handle, api.Errno) { return v.Agree(secret, share) })
	p.hand = p.x.make(func(v *vault.Vault) (vault.Handle, api.Errno) { return secrets.Hand(v, first, shared) })
	return true
}

// The events.

func (p *paper) tells(kind int) { p.events = append(p.events, handshake.Event{Kind: kind}) }

func (p *paper) says(level int, m hello.Message) {
	b, _ := hello.Put(m)
	p.add(b)
	p.events = append(p.events, handshake.Event{Kind: handshake.Say, Level: level, Bytes: b})
}

func (p *paper) key(kind, level int, secret vault.Handle) {
	p.events = append(p.events, handshake.Event{Kind: kind, Level: level, Secret: secret})
}

func (p *paper) peer(m hello.Message) {
	p.events = append(p.events, handshake.Event{Kind: handshake.Peer, Bytes: m.Params})
}

// A client.

// saysEarly: the client's message says so.
func (p *paper) saysEarly() bool {
	return len(p.c.Before.Ticket) > 0 && p.c.Early && p.c.Before.Early
}

func (p *paper) opens() {
	m := hello.Message{Kind: hello.Client, Random: p.x.w.Fresh(), Name: p.c.Name, Protos: p.c.Protos, Params: p.c.Params}
	p.secret = p.x.w.Fresh()
	m.Share = p.public(p.secret)
	var first vault.Handle
	if len(p.c.Before.Ticket) > 0 {
		first = p.early(p.c.Before.Secret)
		m.Ticket, m.Early = p.c.Before.Ticket, p.saysEarly()
		m.Binder = p.bind(first, m)
	}
	p.says(handshake.First, m)
	if p.saysEarly() {
		p.key(handshake.WriteKey, handshake.Early, p.traffic(first, "early"))
	}
}

func (p *paper) servers(m hello.Message, b []byte) int {
	if m.Again && len(p.c.Before.Ticket) == 0 {
		return 47
	}
	before := p.c.Before.Secret
	if !m.Again {
		before = vault.Handle{}
	}
	if !p.agrees(p.early(before), p.secret, m.Share) {
		return 47
	}
	p.add(b)
	p.serverHand, p.clientHand = p.traffic(p.hand, "server hand"), p.traffic(p.hand, "client hand")
	p.key(handshake.ReadKey, handshake.Hand, p.serverHand)
	p.key(handshake.WriteKey, handshake.Hand, p.clientHand)
	p.now.Again = m.Again
	return 0
}

func (p *paper) extensions(m hello.Message, b []byte) int {
	if !slices.Contains(p.c.Protos, m.Protos[0]) {
		return 120
	}
	if m.Early && (!p.saysEarly() || !p.now.Again || m.Protos[0] != p.c.Before.Proto) {
		return 47
	}
	p.add(b)
	p.peer(m)
	if p.saysEarly() && m.Early {
		p.tells(handshake.Taken)
	} else if p.saysEarly() {
		p.tells(handshake.Refused)
	}
	p.now.Proto, p.now.Early = m.Protos[0], m.Early
	return 0
}

func (p *paper) identity(m hello.Message, b []byte) int {
	if m.Name != p.c.Name {
		return 112
	}
	if m.Mark != p.c.Trusted {
		return 42
	}
	p.add(b)
	return 0
}

func (p *paper) proof(m hello.Message, b []byte) int {
	if p.x.w.Verify(p.c.Trusted, p.script[:], m.Mark) != api.OK {
		return 51
	}
	p.add(b)
	return 0
}

func (p *paper) serversFinished(m hello.Message, b []byte) int {
	if m.Mark != p.mark(p.serverHand) {
		return 51
	}
	p.add(b)
	p.makeMaster()
	p.clientData, p.serverData = p.traffic(p.master, "client data"), p.traffic(p.master, "server data")
	p.key(handshake.WriteKey, handshake.Data, p.clientData)
	p.key(handshake.ReadKey, handshake.Data, p.serverData)
	p.says(handshake.Hand, hello.Message{Kind: hello.Finished, Mark: p.mark(p.clientHand)})
	p.done()
	return 0
}

func (p *paper) done() {
	p.tells(handshake.Complete)
	p.now.Done, p.now.Script, p.now.Client, p.now.Server = true, p.script, p.clientData, p.serverData
}

func (p *paper) ticket(m hello.Message) int {
	p.events = append(p.events, handshake.Event{Kind: handshake.Session, Bytes: m.Ticket, Secret: p.resume(m.Ticket)})
	return 0
}

// A server.

// chosen is the first proto of the server's own that is said, or none.
func (p *paper) chosen(said []string) string {
	for _, own := range p.c.Protos {
		for _, other := range said {
			if own == other {
				return own
			}
		}
	}
	return ""
}

func (p *paper) clients(m hello.Message, b []byte) int {
	if m.Name != p.c.Name {
		return 112
	}
	p.now.Proto = p.chosen(m.Protos)
	if p.now.Proto == "" {
		return 120
	}
	first := p.early(vault.Handle{})
	of, has := p.x.pages[string(m.Ticket)]
	if has {
		first = p.early(of.secret)
		if m.Binder != p.bind(first, m) {
			return 51
		}
	}
	p.now.Again = has
	p.now.Early = m.Early && has && p.c.Early && of.early && !of.served && of.proto == p.now.Proto
	if p.now.Early {
		of.served = true
		p.noted[string(m.Ticket)] = of
	}
	p.peer(m)
	return p.answers(first, m, b)
}

func (p *paper) answers(first vault.Handle, m hello.Message, b []byte) int {
	says := hello.Message{Kind: hello.Server, Random: p.x.w.Fresh(), Again: p.now.Again}
	p.secret = p.x.w.Fresh()
	says.Share = p.public(p.secret)
	if !p.agrees(first, p.secret, m.Share) {
		return 47
	}
	p.add(b)
	var early vault.Handle
	if p.now.Early {
		early = p.traffic(first, "early")
	}
	p.says(handshake.First, says)
	p.serverHand, p.clientHand = p.traffic(p.hand, "server hand"), p.traffic(p.hand, "client hand")
	p.key(handshake.WriteKey, handshake.Hand, p.serverHand)
	p.key(handshake.ReadKey, handshake.Hand, p.clientHand)
	if p.now.Early {
		p.key(handshake.ReadKey, handshake.Early, early)
		p.tells(handshake.Taken)
	} else if m.Early {
		p.tells(handshake.Refused)
	}
	p.shows()
	return 0
}

// shows says what a server says at Hand.
func (p *paper) shows() {
	p.says(handshake.Hand, hello.Message{Kind: hello.Extensions, Protos: []string{p.now.Proto}, Params: p.c.Params, Early: p.now.Early})
	if !p.now.Again {
		p.says(handshake.Hand, hello.Message{Kind: hello.Identity, Name: p.c.Name, Mark: p.public(p.c.Secret)})
		s := p.script
		sign := p.x.make(func(v *vault.Vault) (vault.Handle, api.Errno) { return v.Sign(p.c.Secret, s[:]) })
		p.says(handshake.Hand, hello.Message{Kind: hello.Proof, Mark: sign})
	}
	p.says(handshake.Hand, hello.Message{Kind: hello.Finished, Mark: p.mark(p.serverHand)})
	p.makeMaster()
	p.serverData, p.clientData = p.traffic(p.master, "server data"), p.traffic(p.master, "client data")
	p.key(handshake.WriteKey, handshake.Data, p.serverData)
}

func (p *paper) clientsFinished(m hello.Message, b []byte) int {
	if m.Mark != p.mark(p.clientHand) {
		return 51
	}
	p.add(b)
	p.key(handshake.ReadKey, handshake.Data, p.clientData)
	p.done()
	if p.c.Life > 0 {
		ticket := p.x.w.Fresh()
		p.noted[string(ticket[:])] = page{secret: p.resume(ticket[:]), proto: p.now.Proto, early: p.c.Early}
		p.says(handshake.Data, hello.Message{Kind: hello.Ticket, Life: p.c.Life, Ticket: ticket[:], Early: p.c.Early})
	}
	return 0
}
