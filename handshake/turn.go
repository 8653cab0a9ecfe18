package handshake

import (
	"caravel/api"
	"caravel/hello"
	"caravel/secrets"
	"caravel/vault"
)

// maxCame is how many bytes of a level may wait.
const maxCame = 65536

// turn is what one call does. It has a talk of its own: what it did counts only if the call has no error.
type turn struct {
	side
	talk
	events []Event
	failed api.Errno // the first error of a layer below that no alert stands for
	ticket string    // what the book has behind the call, none: as it had
	entry  entry
}

// The messages that a machine waits for.
const (
	wantsStart = iota // it has not begun
	wantsClient
	wantsServer
	wantsExtensions
	wantsIdentity
	wantsProof
	wantsServerFinished
	wantsClientFinished
	wantsTicket
	wantsNothing
)

// nowhere is a level at which nothing can come.
const nowhere = -1

// step is what is expected next, and what is done with it: it is handed the message, and its bytes as they stand.
type step struct {
	level, kind int
	do          func(*turn, hello.Message, []byte) error
}

// expected tells the step of what a machine waits for.
func expected(wants int) step {
	switch wants {
	case wantsClient:
		return step{First, hello.Client, (*turn).takeClient}
	case wantsServer:
		return step{First, hello.Server, (*turn).takeServer}
	case wantsExtensions:
		return step{Hand, hello.Extensions, (*turn).takeExtensions}
	case wantsIdentity:
		return step{Hand, hello.Identity, (*turn).takeIdentity}
	case wantsProof:
		return step{Hand, hello.Proof, (*turn).takeProof}
	case wantsServerFinished:
		return step{Hand, hello.Finished, (*turn).takeServerFinished}
	case wantsClientFinished:
		return step{Hand, hello.Finished, (*turn).takeClientFinished}
	case wantsTicket:
		return step{Data, hello.Ticket, (*turn).takeTicket}
	}
	return step{level: nowhere}
}

// start begins a side's part.
func (t *turn) start() {
	t.script = t.made(secrets.Begin(t.vault))
	if t.config.Server {
		t.wants = wantsClient
		return
	}
	t.startClient()
}

// take takes all whole messages that came at a level, with those bytes that waited.
func (t *turn) take(level int, b []byte) error {
	rest := t.came[level]
	if len(b) > maxCame-len(rest) {
		return &api.Close{Code: api.CryptoBuffer, Err: api.ErrBig}
	}
	rest = append(rest, b...)
taking:
	for len(rest) > 0 {
		next := expected(t.wants)
		if level != next.level {
			return alert(unexpected)
		}
		m, size, e := hello.Read(rest, 0)
		switch {
		case e == api.ErrEnd:
			break taking
		case e != api.OK:
			return &wrong{unreadable, e}
		case m.Kind != next.kind:
			return alert(unexpected)
		}
		if err := next.do(t, m, rest[:size]); err != nil {
			return err
		}
		rest = rest[size:]
	}
	if len(rest) == 0 {
		rest = nil // or what was taken would be kept
	}
	t.came[level] = rest
	return nil
}

// made tells a term that a layer below made.
func (t *turn) made(h vault.Handle, e api.Errno) vault.Handle {
	t.check(e)
	return h
}

// check keeps the first error of a layer below.
func (t *turn) check(e api.Errno) {
	if t.failed == api.OK {
		t.failed = e
	}
}

// add puts a message behind the script.
func (t *turn) add(b []byte) {
	t.script = t.made(secrets.Add(t.vault, t.script, b))
}

// traffic tells the secret of a direction, by the script so far.
func (t *turn) traffic(secret vault.Handle, label string) vault.Handle {
	return t.made(secrets.Traffic(t.vault, secret, label, t.script))
}

// mark tells the mark of a direction, by the script so far.
func (t *turn) mark(traffic vault.Handle) vault.Handle {
	return t.made(secrets.Mark(t.vault, traffic, t.script))
}

// agree tells the handshake's secret.
func (t *turn) agree(first, secret, share vault.Handle) (vault.Handle, error) {
	shared, e := t.vault.Agree(secret, share)
	if e != api.OK {
		return vault.Handle{}, &wrong{illegal, e}
	}
	return t.made(secrets.Hand(t.vault, first, shared)), nil
}

// say says a message at a level.
func (t *turn) say(level int, m hello.Message) {
	b, e := hello.Put(m)
	t.check(e)
	t.add(b)
	t.tell(Event{Kind: Say, Level: level, Bytes: b})
}

func (t *turn) tell(e Event) { t.events = append(t.events, e) }

// tellKey tells a key (WriteKey or ReadKey) of a level.
func (t *turn) tellKey(kind, level int, secret vault.Handle) {
	t.tell(Event{Kind: kind, Level: level, Secret: secret})
}

// tellEarly tells what becomes of early data that were said.
func (t *turn) tellEarly(taken bool) {
	kind := Refused
	if taken {
		kind = Taken
	}
	t.tell(Event{Kind: kind})
}

// complete ends the handshake: the client's Finished is the script's last message.
func (t *turn) complete() {
	t.info.Done = true
	t.info.Script, t.info.Client, t.info.Server = t.script, t.clientData, t.serverData
	t.tell(Event{Kind: Complete})
}

// note has the book have an entry for a ticket, once the call has no error.
func (t *turn) note(ticket []byte, e entry) { t.ticket, t.entry = string(ticket), e }

// write puts into the book what was noted.
func (t *turn) write() {
	if t.ticket != "" {
		t.book.entries[t.ticket] = t.entry
	}
}
