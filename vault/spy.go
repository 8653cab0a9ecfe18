package vault

import (
	"iter"

	"caravel/api"
)

// Known tells whether there is a term of that name.
func (v *Vault) Known(h Handle) bool {
	_, e := v.number(h)
	return e == api.OK
}

// Spied tells what somebody comes to know who sees some bytes: the plain texts that can be opened.
func (v *Vault) Spied(seen [][]byte) [][]byte {
	if v.none() {
		return nil
	}
	var plain [][]byte
	knows := v.spy(seen)
	for n, t := range v.terms {
		if t.kind == isSealed && knows(n) && knows(t.of) {
			plain = append(plain, []byte(t.bytes))
		}
	}
	return plain
}

// Hidden tells whether bytes have the name of a term in them that nobody can know who saw others.
func (v *Vault) Hidden(b []byte, seen [][]byte) bool {
	if v.none() {
		return false
	}
	knows := v.spy(seen)
	for n := range names(b) {
		if n >= len(v.terms) || !knows(n) {
			return true
		}
	}
	return false
}

// spy tells by a closure whether somebody who sees some bytes knows the term of a number. Asked for the first time, it goes on until nothing is new: not earlier, since most bytes have no name in them that could be asked for.
func (v *Vault) spy(seen [][]byte) func(n int) bool {
	m := mind{vault: v}
	return func(n int) bool {
		if m.known == nil {
			m.begin(seen)
		}
		for len(m.next) > 0 {
			m.learn()
		}
		return m.known[n]
	}
}

// mind is what somebody knows of a vault's terms.
type mind struct {
	vault *Vault
	heirs heirs
	known []bool // by the terms' numbers
	next  []int  // those whose names were seen or made, and of which nothing was learnt yet
}

// begin reads what somebody sees who knows the root alone.
func (m *mind) begin(seen [][]byte) {
	m.heirs = m.vault.heirs()
	m.known = make([]bool, len(m.vault.terms))
	m.next = []int{root}
	for _, b := range seen {
		m.read(b)
	}
}

// read puts those aside whose names are in bytes; terms to come are nobody's.
func (m *mind) read(b []byte) {
	for n := range names(b) {
		if n < len(m.known) {
			m.next = append(m.next, n)
		}
	}
}

// learn takes one that was put aside, and puts those aside that follow from it. A sealed text is read by whichever of its name and its key becomes known last.
func (m *mind) learn() {
	n := m.next[len(m.next)-1]
	m.next = m.next[:len(m.next)-1]
	if m.known[n] {
		return
	}
	m.known[n] = true
	if t := m.vault.terms[n]; t.kind == isSealed && m.known[t.of] {
		m.read([]byte(t.bytes))
	}
	for heir := range m.heirs.all(n) {
		switch t := m.vault.terms[heir]; {
		case t.kind != isSealed:
			m.next = append(m.next, heir)
		case m.known[heir]: // a key opens a sealed text, but does not tell its name
			m.read([]byte(t.bytes))
		}
	}
}

// heirs tells which terms are made of one, as a chain of links from the last of them to the first. The term of the number n has two links: 2n by its key or first secret, 2n + 1 by its second.
type heirs struct {
	last   []int // by terms' numbers: the last link of each one's chain; 0: it has none, since the root is made of nothing
	before []int // by links: the one before it in its chain
}

// heirs links all terms to those that they are made of.
func (v *Vault) heirs() heirs {
	h := heirs{last: make([]int, len(v.terms)), before: make([]int, 2*len(v.terms))}
	for n, t := range v.terms {
		switch t.kind {
		case isRoot, isFresh:
			continue
		case isAgreed:
			h.link(t.with, 2*n+1)
		}
		h.link(t.of, 2*n)
	}
	return h
}

// link puts a link behind the chain of the term that it is made of.
func (h heirs) link(of, l int) { h.last[of], h.before[l] = l, h.last[of] }

// all goes through the numbers of the terms that are made of one.
func (h heirs) all(of int) iter.Seq[int] {
	return func(yield func(int) bool) {
		for l := h.last[of]; l != 0; l = h.before[l] {
			if !yield(l / 2) {
				return
			}
		}
	}
}
