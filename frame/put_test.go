package frame_test

import (
	"bytes"
	"math"
	"slices"
	"testing"

	"caravel/api"
	"caravel/frame"
)

func TestP4_1Put(t *testing.T) {
	for _, s := range samples() {
		wantPut(t, s.name, s.f, hx(t, s.text))
	}
}

// TestP4_1PutOtherFields: fields that a kind does not have are not looked at, however wrong they are.
func TestP4_1PutOtherFields(t *testing.T) {
	big := make([]byte, api.MaxBuffer+1)
	for _, s := range samples() {
		f := api.Frame{
			Kind: s.f.Kind, Stream: -1, Offset: -1, Data: big, Fin: true, Length: true, Limit: -1, Code: api.MaxVar + 1, Of: math.MinInt,
			Acks: []api.Span{{First: 3, Last: 1}}, Delay: -1, Ecn: [3]int{-1, -1, -1}, Seq: -1, Retire: math.MaxInt, ID: run(30), Reset: [16]byte{9}, Path: [8]byte{9}, Count: -1,
		}
		switch s.f.Kind {
		case api.Padding:
			f.Count = s.f.Count
		case api.Ack:
			f.Acks, f.Delay = s.f.Acks, s.f.Delay
		case api.AckEcn:
			f.Acks, f.Delay, f.Ecn = s.f.Acks, s.f.Delay, s.f.Ecn
		case api.ResetStream:
			f.Stream, f.Code, f.Limit = s.f.Stream, s.f.Code, s.f.Limit
		case api.StopSending:
			f.Stream, f.Code = s.f.Stream, s.f.Code
		case api.CryptoData:
			f.Offset, f.Data = s.f.Offset, s.f.Data
		case api.NewToken, api.Datagram, api.DatagramLength:
			f.Data = s.f.Data
		case api.Stream:
			f.Stream, f.Offset, f.Data, f.Fin, f.Length = s.f.Stream, s.f.Offset, s.f.Data, s.f.Fin, s.f.Length
		case api.MaxStreamData, api.StreamDataBlocked:
			f.Stream, f.Limit = s.f.Stream, s.f.Limit
		case api.MaxData, api.DataBlocked, api.MaxStreamsBidi, api.MaxStreamsUni, api.StreamsBlockBidi, api.StreamsBlockUni:
			f.Limit = s.f.Limit
		case api.NewConnectionID:
			f.Seq, f.Retire, f.ID, f.Reset = s.f.Seq, s.f.Retire, s.f.ID, s.f.Reset
		case api.RetireID:
			f.Seq = s.f.Seq
		case api.PathChallenge, api.PathResponse:
			f.Path = s.f.Path
		case api.CloseTransport:
			f.Code, f.Of, f.Data = s.f.Code, s.f.Of, s.f.Data
		case api.CloseApplication:
			f.Code, f.Data = s.f.Code, s.f.Data
		}
		wantPut(t, s.name, f, hx(t, s.text))
	}
}

// TestP4_1PutKind: kinds that are not there, ahead of all that is wrong beside; of streams the flags are no part of it.
func TestP4_1PutKind(t *testing.T) {
	kinds := []int{math.MinInt, -api.MaxVar, 1 << 14, 1 << 30, api.MaxVar, api.MaxVar + 1, math.MaxInt, 1<<32 + 1, 1<<32 + 8, 256 + 8}
	for kind := -40; kind < 300; kind++ {
		kinds = append(kinds, kind)
	}
	for _, kind := range kinds {
		if isStanding(kind) && (kind <= api.Stream || kind > api.Stream+7) {
			f := sampleOf(kind).f
			if b, e := frame.Put(f); len(b) == 0 || e != api.OK {
				t.Errorf("kind %x: % x, %d", kind, b, int(e))
			}
			continue
		}
		right := api.Frame{Kind: kind, Count: 1, Data: run(3), Acks: []api.Span{{}}, ID: run(3)}
		wantNoPut(t, "no kind", right, api.ErrKind)
		wrong := api.Frame{Kind: kind, Stream: -1, Offset: -1, Data: make([]byte, api.MaxBuffer+1), Limit: -1, Code: -1, Seq: -1, Count: -1}
		wantNoPut(t, "no kind, and wrong", wrong, api.ErrKind)
	}
}

// number is a number of a kind's: its field, the greatest that it may be, and which part of the kind's first sample it is.
type number struct {
	name string
	kind int
	at   func(f *api.Frame) *int
	most int
	part int
}

func ofStream(f *api.Frame) *int { return &f.Stream }
func ofLimit(f *api.Frame) *int  { return &f.Limit }
func ofCode(f *api.Frame) *int   { return &f.Code }
func ofDelay(f *api.Frame) *int  { return &f.Delay }
func ofSeq(f *api.Frame) *int    { return &f.Seq }

func numbers() []number {
	const most = api.MaxVar
	return []number{
		{"Ack's Delay", api.Ack, ofDelay, most, 1},
		{"AckEcn's Delay", api.AckEcn, ofDelay, most, 1},
		{"ECT(0)", api.AckEcn, func(f *api.Frame) *int { return &f.Ecn[0] }, most, 4},
		{"ECT(1)", api.AckEcn, func(f *api.Frame) *int { return &f.Ecn[1] }, most, 5},
		{"CE", api.AckEcn, func(f *api.Frame) *int { return &f.Ecn[2] }, most, 6},
		{"ResetStream's Stream", api.ResetStream, ofStream, most, 0},
		{"ResetStream's Code", api.ResetStream, ofCode, most, 1},
		{"ResetStream's Limit", api.ResetStream, ofLimit, most, 2},
		{"StopSending's Stream", api.StopSending, ofStream, most, 0},
		{"StopSending's Code", api.StopSending, ofCode, most, 1},
		{"Stream's Stream", api.Stream, ofStream, most, 0},
		{"MaxData's Limit", api.MaxData, ofLimit, most, 0},
		{"MaxStreamData's Stream", api.MaxStreamData, ofStream, most, 0},
		{"MaxStreamData's Limit", api.MaxStreamData, ofLimit, most, 1},
		{"MaxStreamsBidi's Limit", api.MaxStreamsBidi, ofLimit, 1 << 60, 0},
		{"MaxStreamsUni's Limit", api.MaxStreamsUni, ofLimit, 1 << 60, 0},
		{"DataBlocked's Limit", api.DataBlocked, ofLimit, most, 0},
		{"StreamDataBlocked's Stream", api.StreamDataBlocked, ofStream, most, 0},
		{"StreamDataBlocked's Limit", api.StreamDataBlocked, ofLimit, most, 1},
		{"StreamsBlockBidi's Limit", api.StreamsBlockBidi, ofLimit, 1 << 60, 0},
		{"StreamsBlockUni's Limit", api.StreamsBlockUni, ofLimit, 1 << 60, 0},
		{"RetireID's Seq", api.RetireID, ofSeq, most, 0},
		{"CloseTransport's Code", api.CloseTransport, ofCode, most, 0},
		{"CloseTransport's Of", api.CloseTransport, func(f *api.Frame) *int { return &f.Of }, most, 1},
		{"CloseApplication's Code", api.CloseApplication, ofCode, most, 0},
	}
}

// TestP4_1PutNumbers: each number alone decides, at and beside its edges.
func TestP4_1PutNumbers(t *testing.T) {
	for _, n := range numbers() {
		s := sampleOf(n.kind)
		s.parts = slices.Clone(s.parts)
		for _, v := range append(edges(), n.most-1, n.most, n.most+1) {
			s.parts[n.part], *n.at(&s.f) = v, v
			if v < 0 || v > n.most {
				wantNoPut(t, n.name, s.f, api.ErrArg)
			} else {
				wantPut(t, n.name, s.f, s.encode(1, 1))
			}
		}
	}
}

func TestP4_1PutPadding(t *testing.T) {
	for _, count := range []int{1, 2, 63, 64, 1200, api.MaxBuffer - 1, api.MaxBuffer} {
		wantPut(t, "padding", api.Frame{Kind: api.Padding, Count: count}, make([]byte, count))
	}
	for _, count := range []int{math.MinInt, -api.MaxBuffer, -1, 0, api.MaxBuffer + 1, 1 << 32, 1<<32 + 1, api.MaxVar, math.MaxInt} {
		wantNoPut(t, "padding", api.Frame{Kind: api.Padding, Count: count}, api.ErrArg)
	}
}

// spans tells those of pairs of numbers.
func spans(pairs ...int) []api.Span {
	var out []api.Span
	for pair := range slices.Chunk(pairs, 2) {
		out = append(out, api.Span{First: pair[0], Last: pair[1]})
	}
	return out
}

// TestP4_1PutSpans: First and Last at and beside their edges, in each place; spans that lie 1 and 2 apart, and in a wrong order.
func TestP4_1PutSpans(t *testing.T) {
	const most = api.MaxVar
	for _, x := range []struct {
		spans []api.Span
		text  string // behind the kind; none: it may not be
	}{
		{nil, ""},
		{[]api.Span{}, ""},
		{spans(0, 0), "00 00 00 00"},
		{spans(0, 1), "01 00 00 01"},
		{spans(1, 1), "01 00 00 00"},
		{spans(-1, 0), ""},
		{spans(-1, -1), ""},
		{spans(1, 0), ""},
		{spans(0, -1), ""},
		{spans(math.MinInt, math.MaxInt), ""},
		{spans(math.MaxInt, math.MinInt), ""},
		{spans(0, most), "ffffffffffffffff 00 00 ffffffffffffffff"},
		{spans(most, most), "ffffffffffffffff 00 00 00"},
		{spans(most-1, most), "ffffffffffffffff 00 00 01"},
		{spans(most, most-1), ""},
		{spans(0, most+1), ""},
		{spans(most+1, most+1), ""},
		{spans(most, math.MaxInt), ""},
		{spans(4, 6, 2, 2), "06 00 01 02 00 00"},
		{spans(4, 6, 1, 2), "06 00 01 02 00 01"},
		{spans(4, 6, 0, 1), "06 00 01 02 01 01"},
		{spans(4, 6, 3, 3), ""},
		{spans(4, 6, 2, 3), ""},
		{spans(4, 6, 2, 4), ""},
		{spans(4, 6, 2, 5), ""},
		{spans(4, 6, 4, 6), ""},
		{spans(4, 6, 8, 9), ""},
		{spans(1, 2, 4, 6), ""},
		{spans(2, 2, 0, 0), "02 00 01 00 00 00"},
		{spans(1, 2, 0, 0), ""},
		{spans(1, 2, -1, -1), ""},
		{spans(0, 2, -2, -2), ""},
		{spans(4, 6, -1, 2), ""},
		{spans(4, 6, 2, 1), ""},
		{spans(4, 6, math.MinInt, 2), ""},
		{spans(4, 6, 0, math.MinInt), ""},
		{spans(most, most, 0, most-2), "ffffffffffffffff 00 01 00 00 fffffffffffffffd"},
		{spans(most, most, 0, most-1), ""},
		{spans(most, most, 0, 0), "ffffffffffffffff 00 01 00 fffffffffffffffd 00"},
		{spans(10, 12, 6, 8, 2, 4), "0c 00 02 02 00 02 00 02"},
		{spans(10, 12, 6, 8, 2, 5), ""},
		{spans(10, 12, 6, 8, 3, 2), ""},
		{spans(10, 12, 2, 4, 6, 8), ""},
	} {
		ack := api.Frame{Kind: api.Ack, Acks: x.spans}
		ecn := api.Frame{Kind: api.AckEcn, Acks: x.spans, Ecn: [3]int{1, 2, 3}}
		if x.text == "" {
			wantNoPut(t, "ack", ack, api.ErrArg)
			wantNoPut(t, "ack with marks", ecn, api.ErrArg)
			continue
		}
		wantPut(t, "ack", ack, hx(t, "02"+x.text))
		wantPut(t, "ack with marks", ecn, hx(t, "03"+x.text+"010203"))
	}
}

// apart tells n spans of one number each, as near as they may be, down to the least.
func apart(n, least int) []api.Span {
	spans := make([]api.Span, n)
	for i := range spans {
		v := least + 2*(n-1-i)
		spans[i] = api.Span{First: v, Last: v}
	}
	return spans
}

func TestP4_1PutManySpans(t *testing.T) {
	for _, n := range []int{1, 2, 63, 64, 65, api.MaxSpans - 1, api.MaxSpans} {
		rest := make([]byte, 2*n-1)
		want := join([]byte{2}, wide(2*n-2, 1), []byte{0}, wide(n-1, 1), rest)
		wantPut(t, "many", api.Frame{Kind: api.Ack, Acks: apart(n, 0)}, want)
		want = join([]byte{3}, wide(2*n+98, 1), []byte{0}, wide(n-1, 1), rest, []byte{0, 0, 0})
		wantPut(t, "many", api.Frame{Kind: api.AckEcn, Acks: apart(n, 100)}, want)
	}
	for _, n := range []int{api.MaxSpans + 1, api.MaxSpans + 2, 1000} {
		wantNoPut(t, "too many", api.Frame{Kind: api.Ack, Acks: apart(n, 0)}, api.ErrArg)
		wantNoPut(t, "too many", api.Frame{Kind: api.AckEcn, Acks: apart(n, 0)}, api.ErrArg)
	}
}

// TestP4_1PutOffset: an Offset, and its end, at and beside 0 and MaxVar.
func TestP4_1PutOffset(t *testing.T) {
	for _, size := range []int{0, 1, 5, 100} {
		for _, offset := range append(edges(), api.MaxVar-size-1, api.MaxVar-size, api.MaxVar-size+1) {
			crypto := api.Frame{Kind: api.CryptoData, Offset: offset, Data: run(size)}
			stream := api.Frame{Kind: api.Stream, Stream: 1, Offset: offset, Data: run(size)}
			counted := stream
			counted.Length = true
			if offset < 0 || offset > api.MaxVar-size {
				for _, f := range []api.Frame{crypto, stream, counted} {
					wantNoPut(t, "offset", f, api.ErrArg)
				}
				continue
			}
			wantPut(t, "crypto", crypto, join([]byte{6}, wide(offset, 1), wide(size, 1), run(size)))
			at, flag := wide(offset, 1), byte(4)
			if offset == 0 {
				at, flag = nil, 0
			}
			wantPut(t, "stream", stream, join([]byte{8 | flag, 1}, at, run(size)))
			wantPut(t, "stream with length", counted, join([]byte{10 | flag, 1}, at, wide(size, 1), run(size)))
		}
	}
}

func TestP4_1PutIdentifier(t *testing.T) {
	for _, x := range []struct{ seq, retire int }{
		{0, 0}, {0, 1}, {1, 0}, {1, 1}, {1, 2}, {100, 99}, {100, 100}, {100, 101}, {api.MaxVar, 0}, {api.MaxVar, api.MaxVar - 1}, {api.MaxVar, api.MaxVar},
		{api.MaxVar, api.MaxVar + 1}, {api.MaxVar + 1, api.MaxVar}, {api.MaxVar + 1, 0}, {math.MaxInt, math.MaxInt}, {5, -1}, {-1, -1}, {-1, -2}, {0, math.MinInt}, {math.MinInt, math.MinInt},
	} {
		f := api.Frame{Kind: api.NewConnectionID, Seq: x.seq, Retire: x.retire, ID: run(4), Reset: reset()}
		if x.retire < 0 || x.retire > x.seq || x.seq > api.MaxVar {
			wantNoPut(t, "identifier", f, api.ErrArg)
		} else {
			wantPut(t, "identifier", f, join([]byte{0x18}, wide(x.seq, 1), wide(x.retire, 1), []byte{4}, run(4), run(16)))
		}
	}
	for _, size := range []int{0, 1, 2, api.MaxID - 1, api.MaxID, api.MaxID + 1, 64, 255, 256, 257, 256 + api.MaxID, 5000} {
		f := api.Frame{Kind: api.NewConnectionID, Seq: 1, ID: run(size), Reset: reset()}
		if size < 1 || size > api.MaxID {
			wantNoPut(t, "identifier", f, api.ErrArg)
		} else {
			wantPut(t, "identifier", f, join([]byte{0x18, 1, 0, byte(size)}, run(size), run(16)))
		}
	}
}

// TestP4_1PutData: Data of no byte, of as many as there may be, and of one more.
func TestP4_1PutData(t *testing.T) {
	for _, s := range samples() {
		if !slices.Contains([]int{api.CryptoData, api.NewToken, api.Stream, api.CloseTransport, api.CloseApplication, api.Datagram, api.DatagramLength}, s.f.Kind) {
			continue
		}
		for _, size := range []int{0, 1, 63, 64, 16383, 16384, api.MaxBuffer - 1, api.MaxBuffer, api.MaxBuffer + 1, api.MaxBuffer + 2} {
			f := s.f
			f.Data = bytes.Repeat([]byte{7}, size)
			if size > api.MaxBuffer || size == 0 && f.Kind == api.NewToken {
				wantNoPut(t, s.name, f, api.ErrArg)
				continue
			}
			ahead := hx(t, s.text)
			ahead = ahead[:len(ahead)-len(s.f.Data)]
			if !s.toEnd {
				ahead = append(ahead[:len(ahead)-1], wide(size, 1)...)
			}
			wantPut(t, s.name, f, join(ahead, f.Data))
		}
	}
}
