package vault_test

import (
	"bytes"
	"fmt"
	"math/big"
	"testing"

	"caravel/api"
	"caravel/vault"
)

// mix is the chapter's, by numbers of any size.
func mix(x *big.Int) *big.Int {
	whole := new(big.Int).Lsh(big.NewInt(1), 64)
	hex := func(s string) *big.Int {
		n, _ := new(big.Int).SetString(s, 16)
		return n
	}
	xorShifted := func(z *big.Int, bits uint) *big.Int {
		return new(big.Int).Xor(z, new(big.Int).Rsh(z, bits))
	}
	times := func(z *big.Int, factor string) *big.Int {
		return new(big.Int).Mod(new(big.Int).Mul(z, hex(factor)), whole)
	}
	z := times(new(big.Int).Add(x, big.NewInt(1)), "9e3779b97f4a7c15")
	z = times(xorShifted(z, 30), "bf58476d1ce4e5b9")
	z = times(xorShifted(z, 27), "94d049bb133111eb")
	return xorShifted(z, 31)
}

// pairOf is the bytes of mix of two numbers.
func pairOf(x, y *big.Int) (h vault.Handle) {
	mix(x).FillBytes(h[:8])
	mix(y).FillBytes(h[8:])
	return h
}

// name is the name of the term of a number, as the chapter says.
func name(n int) vault.Handle {
	x := new(big.Int).Mul(big.NewInt(2), big.NewInt(int64(n)))
	return pairOf(x, new(big.Int).Add(x, big.NewInt(1)))
}

// made is a term of the model.
type made struct {
	kind  string
	of    []int // the numbers of its key or secrets
	plain []byte
}

// model is a vault as the chapter's words have it: everything is sought among all.
type model struct {
	terms   []made
	by      map[string]int // by all that a term is made of
	names   []vault.Handle // more than there are terms
	numbers map[vault.Handle]int
}

func newModel(most int) *model {
	m := &model{terms: []made{{kind: "root"}}, by: map[string]int{}, numbers: map[vault.Handle]int{}}
	for n := range most {
		m.names = append(m.names, name(n))
		m.numbers[name(n)] = n
	}
	return m
}

// number tells a term's number, or -1.
func (m *model) number(h vault.Handle) int {
	if n, ok := m.numbers[h]; ok && n < len(m.terms) {
		return n
	}
	return -1
}

func (m *model) put(t made, rest ...any) vault.Handle {
	key := fmt.Sprintf("%s %v %q", t.kind, t.of, rest)
	n, ok := m.by[key]
	if !ok || t.kind == "fresh" {
		n = len(m.terms)
		m.terms = append(m.terms, t)
		m.by[key] = n
	}
	return m.names[n]
}

// one makes a term of one other, if there is that.
func (m *model) one(kind string, of vault.Handle, rest ...any) (vault.Handle, api.Errno) {
	n := m.number(of)
	if n < 0 {
		return vault.Handle{}, api.ErrNone
	}
	return m.put(made{kind: kind, of: []int{n}}, rest...), api.OK
}

func (m *model) secretOf(public vault.Handle) int {
	n := m.number(public)
	if n < 0 || m.terms[n].kind != "public" {
		return -1
	}
	return m.terms[n].of[0]
}

func (m *model) agree(secret, public vault.Handle) (vault.Handle, api.Errno) {
	one, other := m.number(secret), m.secretOf(public)
	if one < 0 || other < 0 {
		return vault.Handle{}, api.ErrNone
	}
	return m.put(made{kind: "agreed", of: []int{min(one, other), max(one, other)}}), api.OK
}

func (m *model) verify(public vault.Handle, b []byte, signature vault.Handle) api.Errno {
	secret := m.secretOf(public)
	if secret < 0 {
		return api.ErrNone
	}
	for key, n := range m.by {
		if key == fmt.Sprintf("signature %v %q", []int{secret}, []any{b}) && m.names[n] == signature {
			return api.OK
		}
	}
	return api.ErrSign
}

func (m *model) seal(key vault.Handle, number int, also, plain []byte) ([]byte, api.Errno) {
	n := m.number(key)
	switch {
	case n < 0:
		return nil, api.ErrNone
	case number < 0:
		return nil, api.ErrArg
	case len(plain) > 65536:
		return nil, api.ErrBig
	}
	h := m.put(made{kind: "sealed", of: []int{n}, plain: bytes.Clone(plain)}, fmt.Sprint(number), also, plain)
	return append(make([]byte, len(plain)), h[:]...), api.OK
}

// open tries every plain text of the key's.
func (m *model) open(key vault.Handle, number int, also, sealed []byte) ([]byte, api.Errno) {
	n := m.number(key)
	switch {
	case n < 0:
		return nil, api.ErrNone
	case number < 0:
		return nil, api.ErrArg
	}
	for _, t := range m.terms {
		made, ok := m.by[fmt.Sprintf("sealed %v %q", []int{n}, []any{fmt.Sprint(number), also, t.plain})]
		if ok && bytes.Equal(sealed, append(make([]byte, len(t.plain)), m.names[made][:]...)) {
			return t.plain, api.OK
		}
	}
	return nil, api.ErrSeal
}

// knows tells what somebody knows who sees some bytes: each round goes through all, until one has nothing new.
func (m *model) knows(seen [][]byte) (known, opened map[int]bool) {
	known, opened = map[int]bool{0: true}, map[int]bool{}
	for more := true; more; {
		more = false
		for n, t := range m.terms {
			if !known[n] && (m.isIn(n, seen) || t.kind != "sealed" && anyOf(t.of, known)) {
				known[n], more = true, true
			}
			if t.kind == "sealed" && known[n] && anyOf(t.of, known) && !opened[n] {
				seen = append(seen[:len(seen):len(seen)], t.plain)
				opened[n], more = true, true
			}
		}
	}
	return known, opened
}

func (m *model) isIn(n int, seen [][]byte) bool {
	for _, b := range seen {
		if bytes.Contains(b, m.names[n][:]) {
			return true
		}
	}
	return false
}

func anyOf(list []int, known map[int]bool) bool {
	for _, n := range list {
		if known[n] {
			return true
		}
	}
	return false
}

func (m *model) spied(seen [][]byte) (list [][]byte) {
	_, opened := m.knows(seen)
	for n, t := range m.terms {
		if opened[n] {
			list = append(list, t.plain)
		}
	}
	return list
}

func (m *model) hidden(b []byte, seen [][]byte) bool {
	known, _ := m.knows(seen)
	for n := range m.names {
		if !known[n] && m.isIn(n, [][]byte{b}) {
			return true
		}
	}
	return false
}

// pair is a vault and the model of it: each call is made of both, and must answer the same.
type pair struct {
	t *testing.T
	v *vault.Vault
	m *model
}

func newPair(t *testing.T, most int) pair { return pair{t, vault.New(), newModel(most)} }

func (p pair) same(call string, got, want any, e, wantE api.Errno) {
	if g, w := fmt.Sprintf("%q", got), fmt.Sprintf("%q", want); g != w || e != wantE {
		p.t.Helper()
		p.t.Fatalf("%s of %d terms: %s, %d, not %s, %d", call, len(p.m.terms), g, int(e), w, int(wantE))
	}
}

func (p pair) fresh() vault.Handle {
	got, want := p.v.Fresh(), p.m.put(made{kind: "fresh"})
	p.t.Helper()
	p.same("Fresh", got, want, api.OK, api.OK)
	return got
}

func (p pair) derive(key vault.Handle, label string, b []byte) vault.Handle {
	got, e := p.v.Derive(key, label, b)
	want, wantE := p.m.one("derived", key, label, b)
	p.t.Helper()
	p.same("Derive", got, want, e, wantE)
	return got
}

func (p pair) public(secret vault.Handle) vault.Handle {
	got, e := p.v.Public(secret)
	want, wantE := p.m.one("public", secret)
	p.t.Helper()
	p.same("Public", got, want, e, wantE)
	return got
}

func (p pair) agree(secret, public vault.Handle) vault.Handle {
	got, e := p.v.Agree(secret, public)
	want, wantE := p.m.agree(secret, public)
	p.t.Helper()
	p.same("Agree", got, want, e, wantE)
	return got
}

func (p pair) sign(secret vault.Handle, b []byte) vault.Handle {
	got, e := p.v.Sign(secret, b)
	want, wantE := p.m.one("signature", secret, b)
	p.t.Helper()
	p.same("Sign", got, want, e, wantE)
	return got
}

func (p pair) verify(public vault.Handle, b []byte, signature vault.Handle) {
	e, want := p.v.Verify(public, b, signature), p.m.verify(public, b, signature)
	p.t.Helper()
	p.same("Verify", 0, 0, e, want)
}

func (p pair) seal(key vault.Handle, number int, also, plain []byte) []byte {
	got, e := p.v.Seal(key, number, also, plain)
	want, wantE := p.m.seal(key, number, also, plain)
	p.t.Helper()
	p.same("Seal", got, want, e, wantE)
	return got
}

func (p pair) open(key vault.Handle, number int, also, sealed []byte) {
	got, e := p.v.Open(key, number, also, sealed)
	want, wantE := p.m.open(key, number, also, sealed)
	p.t.Helper()
	p.same("Open", got, want, e, wantE)
}

func (p pair) known(h vault.Handle) {
	p.t.Helper()
	p.same("Known", p.v.Known(h), p.m.number(h) >= 0, api.OK, api.OK)
}

func (p pair) spied(seen [][]byte) {
	p.t.Helper()
	p.same("Spied", p.v.Spied(seen), p.m.spied(seen), api.OK, api.OK)
}

func (p pair) hidden(b []byte, seen [][]byte) {
	p.t.Helper()
	p.same("Hidden", p.v.Hidden(b, seen), p.m.hidden(b, seen), api.OK, api.OK)
}
