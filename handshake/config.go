package handshake

import (
	"bytes"
	"slices"

	"caravel/api"
	"caravel/hello"
	"caravel/vault"
)

// maxLife is the greatest that a ticket's four bytes can tell.
const maxLife = 1<<32 - 1

// mayBe tells whether a side can go about it so.
func (c Config) mayBe(v *vault.Vault) bool {
	if c.Life < 0 || c.Life > maxLife || len(c.Before.Ticket) > api.MaxToken {
		return false
	}
	if c.Server {
		return v.Known(c.Secret) && c.mayAnswer()
	}
	return v.Known(c.Trusted) && (!c.hasTicket() || v.Known(c.Before.Secret)) && c.mayAsk()
}

// mayAsk tells whether a client's message can have it.
func (c Config) mayAsk() bool {
	return mayBe(hello.Message{Kind: hello.Client, Name: c.Name, Protos: c.Protos, Params: c.Params})
}

// mayAnswer tells whether a server's messages can have it, whichever of its protos is chosen: it may have none, or more than a client may say.
func (c Config) mayAnswer() bool {
	for _, proto := range c.Protos {
		if !mayBe(hello.Message{Kind: hello.Extensions, Protos: []string{proto}}) {
			return false
		}
	}
	return mayBe(hello.Message{Kind: hello.Extensions, Protos: []string{"any"}, Params: c.Params}) &&
		mayBe(hello.Message{Kind: hello.Identity, Name: c.Name})
}

func mayBe(m hello.Message) bool {
	_, e := hello.Put(m)
	return e == api.OK
}

// hasTicket tells whether something was agreed before.
func (c Config) hasTicket() bool { return len(c.Before.Ticket) > 0 }

// saysEarly tells whether a client says that early data come.
func (c Config) saysEarly() bool { return c.hasTicket() && c.Early && c.Before.Early }

// clone tells a config that shares no memory with the caller's.
func (c Config) clone() Config {
	c.Protos = slices.Clone(c.Protos)
	c.Params = bytes.Clone(c.Params)
	c.Before.Ticket = bytes.Clone(c.Before.Ticket)
	return c
}
