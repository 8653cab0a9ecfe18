package params_test

import (
	"bytes"
	"math/rand"
	"testing"

	"caravel/api"
	"caravel/params"
)

// whole tells a slice's memory to the end of its spare room.
func whole(b []byte) []byte { return b[:cap(b)] }

// spoil writes over a slice, and over its spare room.
func spoil(b []byte) {
	for i := range whole(b) {
		whole(b)[i] ^= 0xff
	}
}

// roomy tells the same bytes with spare room behind them.
func roomy(b []byte) []byte {
	return append(bytes.Clone(b), "................"...)[:len(b)]
}

// anyParams are some that may be.
func anyParams(random *rand.Rand, server bool) params.Params {
	p := params.Default()
	for _, n := range numerals() {
		switch random.Intn(4) {
		case 0:
			*n.at(&p) = n.least + random.Intn(n.most-n.least+1)
		case 1:
			*n.at(&p) = min(n.most, n.least+random.Intn(1<<random.Intn(20)))
		case 2:
			*n.at(&p) = n.most
		}
	}
	p.Still = random.Intn(2) == 0
	p.First = run(random.Intn(api.MaxID + 1))
	if !server {
		return p
	}
	p.Original = run(random.Intn(api.MaxID + 1))
	if p.HasAgain = random.Intn(2) == 0; p.HasAgain {
		p.Again = run(random.Intn(api.MaxID + 1))
	}
	if p.HasReset = random.Intn(2) == 0; p.HasReset {
		random.Read(p.Reset[:])
	}
	return p
}

func TestP3_4ReadOfPut(t *testing.T) {
	random := rand.New(rand.NewSource(1))
	for i := range 4000 {
		server := i%2 == 0
		p := anyParams(random, server)
		b, e := params.Put(p, server)
		if e != api.OK {
			t.Fatalf("Put(%+v) = %d", p, int(e))
		}
		wantRead(t, "read of put", b, server, p)
	}
	for _, server := range []bool{false, true} {
		b, _ := params.Put(greatest(server), server)
		wantRead(t, "greatest", b, server, greatest(server))
	}
}

// TestP3_4WhatIsRead: of bytes that are spoilt anyhow, what is read can be put, and is read again.
func TestP3_4WhatIsRead(t *testing.T) {
	random := rand.New(rand.NewSource(2))
	read := 0
	for i := range 40000 {
		server := i%2 == 0
		b, _ := params.Put(anyParams(random, server), server)
		for range random.Intn(3) {
			b[random.Intn(len(b))] = byte(random.Intn(256))
		}
		p, e := params.Read(b, server)
		if e != api.OK {
			if !same(p, params.Params{}) {
				t.Fatalf("Read(% x) = %+v with %d", b, p, int(e))
			}
			continue
		}
		read++
		again, e := params.Put(p, server)
		if e != api.OK || params.Check(p, server) != api.OK {
			t.Fatalf("what is read of % x can't be put: %+v, %d", b, p, int(e))
		}
		wantRead(t, "read again", again, server, p)
	}
	if read < 10000 {
		t.Errorf("only %d were read", read)
	}
}

func TestMemoryPut(t *testing.T) {
	for _, x := range puts() {
		p := x.p
		p.Original, p.First, p.Again = roomy(p.Original), roomy(p.First), roomy(p.Again)
		lists := [][]byte{p.Original, p.First, p.Again}
		var kept [][]byte
		for _, l := range lists {
			kept = append(kept, bytes.Clone(whole(l)))
		}
		params.Check(p, x.server)
		b, _ := params.Put(p, x.server)
		again, _ := params.Put(p, x.server)
		spoil(b)
		for i, l := range lists {
			if !bytes.Equal(whole(l), kept[i]) {
				t.Errorf("%s: what was handed in changed", x.name)
			}
			spoil(l)
		}
		if !bytes.Equal(again, hx(t, x.text)) {
			t.Errorf("%s: answers share memory", x.name)
		}
	}
}

func TestMemoryRead(t *testing.T) {
	for _, x := range puts() {
		b := roomy(hx(t, x.text))
		kept := bytes.Clone(whole(b))
		p, _ := params.Read(b, x.server)
		other, _ := params.Read(b, x.server)
		if !bytes.Equal(whole(b), kept) {
			t.Errorf("%s: what was handed in changed", x.name)
		}
		spoil(b)
		if !same(p, x.p) {
			t.Errorf("%s: the answer shares what was handed in", x.name)
		}
		spoil(b)
		for _, l := range [][]byte{p.Original, p.First, p.Again} {
			spoil(l)
			if !bytes.Equal(whole(b), kept) || !same(other, x.p) {
				t.Errorf("%s: a list of the answer shares memory", x.name)
			}
			spoil(l)
			if !same(p, x.p) {
				t.Errorf("%s: lists of the answer share memory", x.name)
			}
		}
	}
}

func TestMemoryWrong(t *testing.T) {
	for _, text := range []string{"", "0f", "0f05 01", "0f00 0f00", "0f00 0a0115", "0000 0f00", "0f15 000102030405060708090a0b0c0d0e0f1011121314"} {
		b := roomy(hx(t, text))
		kept := bytes.Clone(whole(b))
		params.Read(b, false)
		if !bytes.Equal(whole(b), kept) {
			t.Errorf("%s: what was handed in changed", text)
		}
	}
	long := roomy(run(api.MaxID + 1))
	kept := bytes.Clone(whole(long))
	p := with(func(p *params.Params) { p.Original, p.First, p.Again = long, long, long })
	params.Check(p, true)
	params.Put(p, true)
	if !bytes.Equal(whole(long), kept) {
		t.Error("what was handed in changed")
	}
}
