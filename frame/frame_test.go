package frame_test

import (
	"bytes"
	"encoding/hex"
	"errors"
	"math"
	"reflect"
	"slices"
	"strings"
	"testing"

	"caravel/api"
	"caravel/frame"
	"caravel/octet"
)

// hx tells bytes that are written to the base 16; blanks part them.
func hx(t *testing.T, text string) []byte {
	t.Helper()
	b, err := hex.DecodeString(strings.ReplaceAll(text, " ", ""))
	if err != nil {
		t.Fatal(err)
	}
	return b
}

// run tells n bytes that are told apart by their places.
func run(n int) []byte {
	b := make([]byte, n)
	for i := range b {
		b[i] = byte(i + 1)
	}
	return b
}

// join tells a new memory with all pieces, one behind the other.
func join(pieces ...[]byte) []byte { return bytes.Join(pieces, nil) }

// wide tells a number of variable length in that many bytes, or in as few as it needs.
func wide(v, width int) []byte {
	least, _ := octet.Size(v)
	b, e := octet.PutWide(nil, v, max(least, width))
	if e != api.OK {
		panic(e)
	}
	return b
}

// plain tells a frame whose lists are nil where they are empty: these are as good.
func plain(f api.Frame) api.Frame {
	if len(f.Data) == 0 {
		f.Data = nil
	}
	if len(f.ID) == 0 {
		f.ID = nil
	}
	if len(f.Acks) == 0 {
		f.Acks = nil
	}
	return f
}

func same(f, g api.Frame) bool { return reflect.DeepEqual(plain(f), plain(g)) }

func sameAll(f, g []api.Frame) bool { return slices.EqualFunc(f, g, same) }

func reset() [16]byte { return [16]byte(run(16)) }

func path() [8]byte { return [8]byte(run(8)) }

const (
	resetText = "0102030405060708090a0b0c0d0e0f10"
	pathText  = "0102030405060708"
)

// sample is a frame, its kind as it stands, its bytes, and what they are made of behind the kind: numbers (int) and bytes.
type sample struct {
	name  string
	f     api.Frame
	kind  int
	text  string
	parts []any
	toEnd bool // its last part goes to the packet's end
}

// encode tells a sample's bytes, with the kind and the other numbers in that many bytes.
func (s sample) encode(kindWidth, width int) []byte {
	b := wide(s.kind, kindWidth)
	for _, p := range s.parts {
		switch x := p.(type) {
		case int:
			b = append(b, wide(x, width)...)
		case []byte:
			b = append(b, x...)
		}
	}
	return b
}

// needs tells how many of its bytes must be there: all, but for those that go to the packet's end.
func (s sample) needs(width int) int {
	n := len(s.encode(1, width))
	switch {
	case s.kind == api.Padding:
		return 1
	case s.toEnd:
		return n - len(s.f.Data)
	}
	return n
}

// samples are ordinary frames of every kind of the table.
func samples() []sample {
	ab, hello := []byte("ab"), []byte("hello")
	spans := []api.Span{{First: 5, Last: 7}, {First: 1, Last: 2}}
	three := []api.Span{{First: 1000, Last: 1300}, {First: 998, Last: 998}, {First: 0, Last: 500}}
	out := []sample{
		{"padding", api.Frame{Kind: api.Padding, Count: 1}, 0x00, "00", nil, false},
		{"paddings", api.Frame{Kind: api.Padding, Count: 5}, 0x00, "00 00000000", []any{make([]byte, 4)}, false},
		{"ping", api.Frame{Kind: api.Ping}, 0x01, "01", nil, false},
		{"ack of the chapter", api.Frame{Kind: api.Ack, Acks: spans}, 0x02, "02 07 00 01 02 01 01", []any{7, 0, 1, 2, 1, 1}, false},
		{"ack of one", api.Frame{Kind: api.Ack, Acks: []api.Span{{First: 3, Last: 3}}, Delay: 100}, 0x02, "02 03 4064 00 00", []any{3, 100, 0, 0}, false},
		{"ack of the first", api.Frame{Kind: api.Ack, Acks: []api.Span{{}}}, 0x02, "02 00 00 00 00", []any{0, 0, 0, 0}, false},
		{"ack of three", api.Frame{Kind: api.Ack, Acks: three, Delay: 9}, 0x02, "02 4514 09 02 412c 00 00 41f0 41f4", []any{1300, 9, 2, 300, 0, 0, 496, 500}, false},
		{"ack with marks", api.Frame{Kind: api.AckEcn, Acks: []api.Span{{First: 0, Last: 9}}, Delay: 1, Ecn: [3]int{1, 2, 300}}, 0x03, "03 09 01 00 09 01 02 412c", []any{9, 1, 0, 9, 1, 2, 300}, false},
		{"acks with marks", api.Frame{Kind: api.AckEcn, Acks: spans, Ecn: [3]int{0, 70, 0}}, 0x03, "03 07 00 01 02 01 01 00 4046 00", []any{7, 0, 1, 2, 1, 1, 0, 70, 0}, false},
		{"reset", api.Frame{Kind: api.ResetStream, Stream: 4, Code: 5, Limit: 1000}, 0x04, "04 04 05 43e8", []any{4, 5, 1000}, false},
		{"stop", api.Frame{Kind: api.StopSending, Stream: 8, Code: 11}, 0x05, "05 08 0b", []any{8, 11}, false},
		{"crypto", api.Frame{Kind: api.CryptoData, Offset: 100, Data: []byte("abc")}, 0x06, "06 4064 03 616263", []any{100, 3, []byte("abc")}, false},
		{"crypto of no byte", api.Frame{Kind: api.CryptoData}, 0x06, "06 00 00", []any{0, 0}, false},
		{"token", api.Frame{Kind: api.NewToken, Data: []byte("tok")}, 0x07, "07 03 746f6b", []any{3, []byte("tok")}, false},
		{"limit of data", api.Frame{Kind: api.MaxData, Limit: 16384}, 0x10, "10 80004000", []any{16384}, false},
		{"limit of a stream", api.Frame{Kind: api.MaxStreamData, Stream: 4, Limit: 1000}, 0x11, "11 04 43e8", []any{4, 1000}, false},
		{"limit of streams", api.Frame{Kind: api.MaxStreamsBidi, Limit: 100}, 0x12, "12 4064", []any{100}, false},
		{"limit of streams, one way", api.Frame{Kind: api.MaxStreamsUni, Limit: 1 << 60}, 0x13, "13 d000000000000000", []any{1 << 60}, false},
		{"blocked", api.Frame{Kind: api.DataBlocked, Limit: api.MaxVar}, 0x14, "14 ffffffffffffffff", []any{api.MaxVar}, false},
		{"stream blocked", api.Frame{Kind: api.StreamDataBlocked, Stream: 3, Limit: 7}, 0x15, "15 03 07", []any{3, 7}, false},
		{"streams blocked", api.Frame{Kind: api.StreamsBlockBidi, Limit: 64}, 0x16, "16 4040", []any{64}, false},
		{"streams blocked, one way", api.Frame{Kind: api.StreamsBlockUni}, 0x17, "17 00", []any{0}, false},
		{"identifier", api.Frame{Kind: api.NewConnectionID, Seq: 3, Retire: 2, ID: []byte{0xa, 0xb}, Reset: reset()}, 0x18, "18 03 02 02 0a0b" + resetText, []any{3, 2, []byte{2, 0xa, 0xb}, run(16)}, false},
		{"retire", api.Frame{Kind: api.RetireID, Seq: 70}, 0x19, "19 4046", []any{70}, false},
		{"challenge", api.Frame{Kind: api.PathChallenge, Path: path()}, 0x1a, "1a" + pathText, []any{run(8)}, false},
		{"response", api.Frame{Kind: api.PathResponse, Path: path()}, 0x1b, "1b" + pathText, []any{run(8)}, false},
		{"close", api.Frame{Kind: api.CloseTransport, Code: 10, Of: 6, Data: []byte("no")}, 0x1c, "1c 0a 06 02 6e6f", []any{10, 6, 2, []byte("no")}, false},
		{"close without a reason", api.Frame{Kind: api.CloseTransport, Code: 256}, 0x1c, "1c 4100 00 00", []any{256, 0, 0}, false},
		{"application's close", api.Frame{Kind: api.CloseApplication, Code: 300, Data: []byte("bye")}, 0x1d, "1d 412c 03 627965", []any{300, 3, []byte("bye")}, false},
		{"done", api.Frame{Kind: api.HandshakeDone}, 0x1e, "1e", nil, false},
		{"datagram", api.Frame{Kind: api.Datagram, Data: ab}, 0x30, "30 6162", []any{ab}, true},
		{"datagram of no byte", api.Frame{Kind: api.Datagram}, 0x30, "30", nil, true},
		{"datagram with length", api.Frame{Kind: api.DatagramLength, Data: ab}, 0x31, "31 02 6162", []any{2, ab}, false},
		{"datagram of no byte with length", api.Frame{Kind: api.DatagramLength}, 0x31, "31 00", []any{0}, false},
		{"stream of the chapter", api.Frame{Kind: api.Stream, Stream: 4, Data: ab, Fin: true}, 0x09, "09 04 6162", []any{4, ab}, true},
		{"stream of no byte", api.Frame{Kind: api.Stream}, 0x08, "08 00", []any{0}, true},
		{"stream's end", api.Frame{Kind: api.Stream, Stream: 64, Offset: 64, Fin: true, Length: true}, 0x0f, "0f 4040 4040 00", []any{64, 64, 0}, false},
	}
	streams := []struct {
		name string
		f    api.Frame
		text string
	}{
		{"stream", api.Frame{}, "08 07 68656c6c6f"},
		{"stream F", api.Frame{Fin: true}, "09 07 68656c6c6f"},
		{"stream L", api.Frame{Length: true}, "0a 07 05 68656c6c6f"},
		{"stream L F", api.Frame{Length: true, Fin: true}, "0b 07 05 68656c6c6f"},
		{"stream O", api.Frame{Offset: 300}, "0c 07 412c 68656c6c6f"},
		{"stream O F", api.Frame{Offset: 300, Fin: true}, "0d 07 412c 68656c6c6f"},
		{"stream O L", api.Frame{Offset: 300, Length: true}, "0e 07 412c 05 68656c6c6f"},
		{"stream O L F", api.Frame{Offset: 300, Length: true, Fin: true}, "0f 07 412c 05 68656c6c6f"},
	}
	for i, x := range streams {
		x.f.Kind, x.f.Stream, x.f.Data = api.Stream, 7, hello
		parts := []any{7}
		if x.f.Offset != 0 {
			parts = append(parts, x.f.Offset)
		}
		if x.f.Length {
			parts = append(parts, len(hello))
		}
		out = append(out, sample{x.name, x.f, api.Stream + i, x.text, append(parts, hello), !x.f.Length})
	}
	return out
}

// sampleOf tells the first sample of a kind of the table.
func sampleOf(kind int) sample {
	all := samples()
	return all[slices.IndexFunc(all, func(s sample) bool { return s.f.Kind == kind })]
}

// TestSamples: they are of every kind of the table, streams with all their flags, and their parts are their bytes.
func TestSamples(t *testing.T) {
	stands := map[int]int{}
	for _, s := range samples() {
		stands[s.kind]++
		if b := s.encode(1, 1); !bytes.Equal(b, hx(t, s.text)) {
			t.Errorf("%s: % x", s.name, b)
		}
	}
	for kind := range 0x40 {
		if (stands[kind] > 0) != isStanding(kind) {
			t.Errorf("%d samples of kind %x", stands[kind], kind)
		}
	}
}

// isStanding tells whether a kind can stand in a packet, by the table.
func isStanding(kind int) bool { return kind >= 0 && kind <= 0x1e || kind == 0x30 || kind == 0x31 }

// edges are numbers at and beside all edges that the chapter and octet name.
func edges() []int {
	out := []int{math.MinInt, math.MinInt + 1, -api.MaxVar, -2, math.MaxInt - 1, math.MaxInt}
	for _, v := range []int{0, 1, 1 << 6, 1 << 14, 1 << 30, 1 << 60, 1 << 61, api.MaxVar} {
		out = append(out, v-1, v, v+1)
	}
	return out
}

func wantPut(t *testing.T, name string, f api.Frame, want []byte) {
	t.Helper()
	if b, e := frame.Put(f); !bytes.Equal(b, want) || e != api.OK {
		t.Errorf("%s: Put(%+v) = % x, %d; want % x", name, brief(f), cut(b), int(e), cut(want))
	}
}

func wantNoPut(t *testing.T, name string, f api.Frame, want api.Errno) {
	t.Helper()
	if b, e := frame.Put(f); b != nil || e != want {
		t.Errorf("%s: Put(%+v) = % x, %d; want error %d", name, brief(f), cut(b), int(e), int(want))
	}
}

func wantRead(t *testing.T, name string, b []byte, at int, want api.Frame, next int) {
	t.Helper()
	f, n, err := frame.Read(b, at)
	if !same(f, want) || n != next || err != nil {
		t.Errorf("%s: Read(% x, %d) = %+v, %d, %v; want %+v, %d", name, cut(b), at, brief(f), n, err, brief(want), next)
	}
}

// wantNoRead asks for the error, with nothing beside it.
func wantNoRead(t *testing.T, name string, b []byte, at int, want api.Close) {
	t.Helper()
	f, n, err := frame.Read(b, at)
	if !reflect.DeepEqual(f, api.Frame{}) || n != 0 {
		t.Errorf("%s: Read(% x, %d) = %+v, %d beside an error", name, cut(b), at, brief(f), n)
	}
	wantClose(t, name, b, err, want)
}

func wantClose(t *testing.T, name string, b []byte, err error, want api.Close) {
	t.Helper()
	var c *api.Close
	if !errors.As(err, &c) || *c != want || !errors.Is(err, want.Err) {
		t.Errorf("%s: of % x: %+v (%v); want %+v", name, cut(b), c, err, want)
	}
}

// encoding tells the Close of a frame that is wrong in its encoding.
func encoding(kind int, e api.Errno) api.Close {
	return api.Close{Code: api.FrameEncoding, Kind: kind, Err: e}
}

func violation(kind int) api.Close {
	return api.Close{Code: api.Violation, Kind: kind, Err: api.ErrForm}
}

// cut and brief leave out most of what is long, for messages.
func cut(b []byte) []byte { return b[:min(len(b), 64)] }

func brief(f api.Frame) api.Frame {
	f.Data, f.ID, f.Acks = cut(f.Data), cut(f.ID), f.Acks[:min(len(f.Acks), 8)]
	return f
}
