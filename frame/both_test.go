package frame_test

import (
	"bytes"
	"errors"
	"math/rand"
	"reflect"
	"slices"
	"testing"

	"caravel/api"
	"caravel/frame"
)

// kinds are those that can be put.
func kinds() []int {
	var out []int
	for kind := range 0x40 {
		if isStanding(kind) && (kind <= api.Stream || kind > api.Stream+7) {
			out = append(out, kind)
		}
	}
	return out
}

// upTo tells a number from 0 to most, small ones and the greatest more often.
func upTo(random *rand.Rand, most int) int {
	switch random.Intn(4) {
	case 0:
		return random.Intn(most + 1)
	case 1:
		return min(most, random.Intn(1<<random.Intn(32)))
	case 2:
		return most - min(most, random.Intn(3))
	}
	return min(most, random.Intn(3))
}

func anySpans(random *rand.Rand) []api.Span {
	var spans []api.Span
	most := upTo(random, api.MaxVar)
	for n := 1 + upTo(random, api.MaxSpans-1); n > 0 && most >= 0; n-- {
		last := most - min(most, upTo(random, 100))
		first := last - min(last, upTo(random, 100))
		spans = append(spans, api.Span{First: first, Last: last})
		most = first - 2
	}
	return spans
}

func anyData(random *rand.Rand, least int) []byte {
	data := make([]byte, least+random.Intn(1<<random.Intn(10)))
	random.Read(data)
	return data
}

// anyFrame is one that may be, with just those fields that its kind has.
func anyFrame(random *rand.Rand) api.Frame {
	f := api.Frame{Kind: kinds()[random.Intn(len(kinds()))]}
	some := func() int { return upTo(random, api.MaxVar) }
	switch f.Kind {
	case api.Padding:
		f.Count = 1 + random.Intn(300)
	case api.AckEcn:
		f.Ecn = [3]int{some(), some(), some()}
		fallthrough
	case api.Ack:
		f.Acks, f.Delay = anySpans(random), some()
	case api.ResetStream:
		f.Limit = some()
		fallthrough
	case api.StopSending:
		f.Stream, f.Code = some(), some()
	case api.Stream:
		f.Stream, f.Fin, f.Length = some(), random.Intn(2) == 0, random.Intn(2) == 0
		fallthrough
	case api.CryptoData:
		f.Data = anyData(random, 0)
		f.Offset = upTo(random, api.MaxVar-len(f.Data))
	case api.NewToken:
		f.Data = anyData(random, 1)
	case api.MaxStreamsBidi, api.MaxStreamsUni, api.StreamsBlockBidi, api.StreamsBlockUni:
		f.Limit = upTo(random, 1<<60)
	case api.MaxStreamData, api.StreamDataBlocked:
		f.Stream = some()
		fallthrough
	case api.MaxData, api.DataBlocked:
		f.Limit = some()
	case api.NewConnectionID:
		f.Seq, f.ID = some(), run(1+random.Intn(api.MaxID))
		f.Retire = upTo(random, f.Seq)
		random.Read(f.Reset[:])
	case api.RetireID:
		f.Seq = some()
	case api.PathChallenge, api.PathResponse:
		random.Read(f.Path[:])
	case api.CloseTransport:
		f.Of = some()
		fallthrough
	case api.CloseApplication:
		f.Code = some()
		fallthrough
	case api.Datagram, api.DatagramLength:
		f.Data = anyData(random, 0)
	}
	return f
}

// TestP4_6ReadOfPut: alone, and in a packet with others ahead and behind.
func TestP4_6ReadOfPut(t *testing.T) {
	random := rand.New(rand.NewSource(1))
	for range 3000 {
		var packet []byte
		var want []api.Frame
		for range 1 + random.Intn(6) {
			f := anyFrame(random)
			b, e := frame.Put(f)
			if e != api.OK {
				t.Fatalf("Put(%+v) = %d", f, int(e))
			}
			wantRead(t, "alone", b, 0, f, len(b))
			if len(want) > 0 && f.Kind == api.Padding && want[len(want)-1].Kind == api.Padding {
				continue
			}
			wantRead(t, "behind others", join(packet, b), len(packet), f, len(packet)+len(b))
			packet, want = append(packet, b...), append(want, f)
			if f.Kind == api.Datagram || f.Kind == api.Stream && !f.Length {
				break
			}
		}
		wantAll(t, "all", packet, want)
	}
	for _, kind := range []int{api.CryptoData, api.NewToken, api.Stream, api.CloseTransport, api.CloseApplication, api.Datagram, api.DatagramLength} {
		f := api.Frame{Kind: kind, Data: anyData(random, api.MaxBuffer)[:api.MaxBuffer]}
		b, _ := frame.Put(f)
		wantRead(t, "greatest", b, 0, f, len(b))
	}
	f := api.Frame{Kind: api.Padding, Count: api.MaxBuffer}
	b, _ := frame.Put(f)
	wantRead(t, "greatest", b, 0, f, len(b))
}

// wantPutAgain: what was read of those bytes can be put, in at most as many, and is read again.
func wantPutAgain(t *testing.T, b []byte, f api.Frame) {
	t.Helper()
	again, e := frame.Put(f)
	if e != api.OK || len(again) > len(b) {
		t.Fatalf("what is read of % x: Put(%+v) = % x, %d", cut(b), brief(f), cut(again), int(e))
	}
	wantRead(t, "read again", again, 0, f, len(again))
}

// TestP4_6WhatIsRead: of bytes that are spoilt anyhow, and of others.
func TestP4_6WhatIsRead(t *testing.T) {
	random := rand.New(rand.NewSource(2))
	read := 0
	for i := range 60000 {
		var b []byte
		if i%3 == 0 {
			b = anyData(random, 0)
			if len(b) > 0 {
				b[0] = byte(random.Intn(0x42))
			}
		} else {
			b, _ = frame.Put(anyFrame(random))
			for range random.Intn(3) {
				b[random.Intn(len(b))] = byte(random.Intn(256))
			}
			b = b[:len(b)-random.Intn(2)]
		}
		f, next, err := frame.Read(b, 0)
		if err == nil {
			read++
			wantPutAgain(t, b[:next], f)
			continue
		}
		var c *api.Close
		if !reflect.DeepEqual(f, api.Frame{}) || next != 0 || !errors.As(err, &c) || c.App || c.Err == api.OK {
			t.Fatalf("Read(% x) = %+v, %d, %v", b, f, next, err)
		}
	}
	if read < 20000 {
		t.Errorf("only %d were read", read)
	}
}

// TestP4_6Wide: frames with numbers in more bytes than they need are put in fewer; an Offset 0 loses its flag.
func TestP4_6Wide(t *testing.T) {
	for _, s := range samples() {
		for _, width := range widths() {
			b := s.encode(1, width)
			f, next, err := frame.Read(b, 0)
			if err != nil || next != len(b) {
				t.Fatalf("%s: Read(% x) = %+v, %d, %v", s.name, b, f, next, err)
			}
			wantPut(t, s.name, f, hx(t, s.text))
		}
	}
	for flags, text := range map[string]string{"0c 04 00 61": "08 04 61", "0d 04 00 61": "09 04 61", "0e 04 00 01 61": "0a 04 01 61", "0f 04 00 01 61": "0b 04 01 61"} {
		f, _, _ := frame.Read(hx(t, flags), 0)
		wantPut(t, flags, f, hx(t, text))
		wantPutAgain(t, hx(t, flags), f)
	}
}

// whole tells a slice's memory to the end of its spare room.
func whole[T any](b []T) []T { return b[:cap(b)] }

// spoil writes over a slice, and over its spare room.
func spoil(b []byte) {
	for i := range whole(b) {
		whole(b)[i] ^= 0xff
	}
}

func spoilSpans(spans []api.Span) {
	for i := range whole(spans) {
		whole(spans)[i].First ^= -1
		whole(spans)[i].Last ^= -1
	}
}

func spoilFrame(f api.Frame) {
	spoil(f.Data)
	spoil(f.ID)
	spoilSpans(f.Acks)
}

// roomy tells the same bytes with spare room behind them.
func roomy(b []byte) []byte { return append(slices.Clone(b), "................"...)[:len(b)] }

// roomyFrame tells the same frame, its lists with spare room behind them.
func roomyFrame(f api.Frame) api.Frame {
	f.Data, f.ID = roomy(f.Data), roomy(f.ID)
	f.Acks = append(slices.Clone(f.Acks), make([]api.Span, 8)...)[:len(f.Acks)]
	return f
}

func TestMemoryPut(t *testing.T) {
	wrong := []sample{
		{f: api.Frame{Kind: 0x20, Data: run(3), ID: run(3), Acks: apart(3, 0)}},
		{f: api.Frame{Kind: api.NewConnectionID, ID: run(30)}},
		{f: api.Frame{Kind: api.Ack, Acks: apart(300, 0)}},
		{f: api.Frame{Kind: api.CryptoData, Offset: api.MaxVar, Data: run(5)}},
	}
	for _, s := range append(samples(), wrong...) {
		f := roomyFrame(s.f)
		data, id, acks := slices.Clone(whole(f.Data)), slices.Clone(whole(f.ID)), slices.Clone(whole(f.Acks))
		b, _ := frame.Put(f)
		again, _ := frame.Put(f)
		spoil(b)
		if !bytes.Equal(whole(f.Data), data) || !bytes.Equal(whole(f.ID), id) || !slices.Equal(whole(f.Acks), acks) {
			t.Errorf("%s: what was handed in changed", s.name)
		}
		spoilFrame(f)
		if !bytes.Equal(again, hx(t, s.text)) {
			t.Errorf("%s: answers share memory", s.name)
		}
	}
}

func TestMemoryRead(t *testing.T) {
	for _, s := range samples() {
		b := roomy(hx(t, s.text))
		kept := slices.Clone(whole(b))
		f, _, _ := frame.Read(b, 0)
		other, _, _ := frame.Read(b, 0)
		spoilFrame(other)
		if !bytes.Equal(whole(b), kept) {
			t.Errorf("%s: what was handed in changed", s.name)
		}
		spoil(b)
		if !same(f, s.f) {
			t.Errorf("%s: an answer shares memory", s.name)
		}
	}
	for _, text := range []string{"", "40", "4001", "20", "0700", "0401", "02 00 00 4100", "06 00 05 61", "18 01 02 01 07" + resetText} {
		b := roomy(hx(t, text))
		kept := slices.Clone(whole(b))
		frame.Read(b, 0)
		frame.Read(b, -1)
		frame.All(b)
		if !bytes.Equal(whole(b), kept) {
			t.Errorf("%s: what was handed in changed", text)
		}
	}
}

// TestMemoryAll: the frames of one answer share nothing, neither with each other, nor with the packet, nor with another answer.
func TestMemoryAll(t *testing.T) {
	var text string
	var want []api.Frame
	for _, s := range samples() {
		if !s.toEnd && s.kind != api.Padding {
			text += s.text
			want = append(want, s.f)
		}
	}
	b := roomy(hx(t, text))
	kept := slices.Clone(whole(b))
	other, _ := frame.All(b)
	for i := range want {
		all, _ := frame.All(b)
		spoilFrame(all[i])
		all[i] = want[i]
		if !sameAll(all, want) || !sameAll(other, want) || !bytes.Equal(whole(b), kept) {
			t.Errorf("frame %d shares memory", i)
		}
	}
	spoil(b)
	if !sameAll(other, want) {
		t.Error("the answer shares what was handed in")
	}
}
