package handshake

import "caravel/vault"

// Book keeps a server's tickets.
type Book struct {
	entries map[string]entry // by their tickets' bytes; nil: no call made the book
}

// entry is what was agreed with whom a ticket was given.
type entry struct {
	secret vault.Handle
	proto  string
	early  bool // early data may come
	came   bool // they did: they are not taken a second time
}

// NewBook begins with none.
func NewBook() *Book { return &Book{entries: map[string]entry{}} }

// none tells that there is no book: it is nil, or no call made it.
func (b *Book) none() bool { return b == nil || b.entries == nil }
