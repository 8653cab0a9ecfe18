package hello_test

import (
	"math/rand"
	"testing"

	"caravel/api"
	"caravel/hello"
	"caravel/vault"
)

// upTo tells a number from least to most, the edges more often.
func upTo(random *rand.Rand, least, most int) int {
	switch random.Intn(5) {
	case 0:
		return least
	case 1:
		return most
	case 2:
		return least + random.Intn(most-least+1)
	}
	return least + random.Intn(min(20, most-least+1))
}

func anyData(random *rand.Rand, least, most int) []byte {
	data := make([]byte, upTo(random, least, most))
	random.Read(data)
	return data
}

func anyText(random *rand.Rand, least int) string { return string(anyData(random, least, 255)) }

func anyHandle(random *rand.Rand) vault.Handle { return vault.Handle(anyData(random, 16, 16)) }

func anyProtos(random *rand.Rand, n int) []string {
	names := make([]string, n)
	for i := range names {
		names[i] = anyText(random, 1)
	}
	return names
}

// anyMessage is one that may be, with just those fields that its kind has.
func anyMessage(random *rand.Rand) hello.Message {
	m := hello.Message{Kind: kinds()[random.Intn(len(kinds()))]}
	set := func() bool { return random.Intn(2) == 0 }
	switch m.Kind {
	case hello.Client:
		m.Random, m.Share, m.Name = anyHandle(random), anyHandle(random), anyText(random, 0)
		m.Protos, m.Params = anyProtos(random, upTo(random, 1, 8)), anyData(random, 0, 4096)
		if set() {
			m.Ticket, m.Binder, m.Early = anyData(random, 1, api.MaxToken), anyHandle(random), set()
		}
	case hello.Server:
		m.Random, m.Share, m.Again = anyHandle(random), anyHandle(random), set()
	case hello.Extensions:
		m.Protos, m.Params, m.Early = anyProtos(random, 1), anyData(random, 0, 4096), set()
	case hello.Identity:
		m.Name = anyText(random, 0)
		fallthrough
	case hello.Proof, hello.Finished:
		m.Mark = anyHandle(random)
	case hello.Ticket:
		m.Life, m.Ticket, m.Early = upTo(random, 0, 1<<32-1), anyData(random, 1, api.MaxToken), set()
	}
	return m
}

// TestP11_3PutIsRead: alone, and in a row of messages.
func TestP11_3PutIsRead(t *testing.T) {
	random := rand.New(rand.NewSource(1))
	for range 2000 {
		var row []byte
		var said []hello.Message
		for range 1 + random.Intn(5) {
			m := anyMessage(random)
			b, e := hello.Put(m)
			if e != api.OK {
				t.Fatalf("Put(%s) = %d", brief(m), int(e))
			}
			wantRead(t, "alone", b, 0, m, len(b))
			row, said = append(row, b...), append(said, m)
		}
		at := 0
		for _, m := range said {
			next := at + len(laid(m))
			wantRead(t, "in a row", row, at, m, next)
			at = next
		}
		if at != len(row) {
			t.Fatalf("the row has %d bytes, not %d", len(row), at)
		}
	}
}

// TestP11_3EachByte: each byte of each sample, as every byte that it can be.
func TestP11_3EachByte(t *testing.T) {
	for _, s := range samples() {
		b := hx(t, s.text)
		for i, before := range b {
			for x := range 256 {
				b[i] = byte(x)
				wantModel(t, s.name, b, 0)
			}
			b[i] = before
		}
	}
}

// TestP11_3WhatIsRead: of messages that are spoilt anyhow, and of other bytes.
func TestP11_3WhatIsRead(t *testing.T) {
	random := rand.New(rand.NewSource(2))
	read := 0
	for i := range 60000 {
		var b []byte
		if i%3 == 0 {
			b = message(kinds()[random.Intn(len(kinds()))], anyData(random, 0, 120))
		} else {
			b = laid(anyMessage(random))
			for range random.Intn(3) {
				b[random.Intn(len(b))] = byte(random.Intn(256))
			}
			b = b[:len(b)-random.Intn(2)]
		}
		at := random.Intn(3)
		if wantModel(t, "spoilt", join(run(at), b, run(random.Intn(3))), at) {
			read++
		}
	}
	if read < 10000 {
		t.Errorf("only %d were read", read)
	}
}

// TestP11_3Flips: each bit of handles, names and data may be turned, and is read as it stands.
func TestP11_3Flips(t *testing.T) {
	for _, kind := range []int{hello.Proof, hello.Finished, hello.Server} {
		b := laid(greatest(kind))
		end := len(b)
		if kind == hello.Server {
			end--
		}
		for i := 4; i < end; i++ {
			for bit := range 8 {
				b[i] ^= 1 << bit
				if !wantModel(t, "turned", b, 0) {
					t.Errorf("kind %d, byte %d, bit %d: not read", kind, i, bit)
				}
				b[i] ^= 1 << bit
			}
		}
	}
}
