package frame_test

import (
	"bytes"
	"errors"
	"math"
	"reflect"
	"slices"
	"testing"

	"caravel/api"
	"caravel/frame"
)

// widths are the bytes that a number of variable length can have.
func widths() []int { return []int{1, 2, 4, 8} }

func TestP4_2Read(t *testing.T) {
	for _, s := range samples() {
		b := hx(t, s.text)
		wantRead(t, s.name, b, 0, s.f, len(b))
		wantRead(t, s.name+", with bytes ahead", join(run(7), b), 7, s.f, 7+len(b))
	}
}

// TestP4_2ReadWithOthers: a frame ends where the next begins, unless it goes to the packet's end.
func TestP4_2ReadWithOthers(t *testing.T) {
	for _, s := range samples() {
		for _, next := range samples() {
			if s.kind == api.Padding && next.kind == api.Padding {
				continue
			}
			b, behind := hx(t, s.text), hx(t, next.text)
			both := join(b, behind)
			want, end := s.f, len(b)
			if s.toEnd {
				want.Data, end = join(s.f.Data, behind), len(both)
			}
			wantRead(t, s.name+", then "+next.name, both, 0, want, end)
			if !s.toEnd {
				wantRead(t, next.name+" behind "+s.name, both, len(b), next.f, len(both))
			}
		}
	}
}

func TestP4_2ReadPlace(t *testing.T) {
	for _, b := range [][]byte{nil, {}, {1}, {1, 1, 1}, {0x20}, {0x40}} {
		for _, at := range []int{math.MinInt, -len(b) - 1, -2, -1, len(b) + 1, len(b) + 2, 1 << 32, api.MaxVar, math.MaxInt} {
			f, next, err := frame.Read(b, at)
			var c *api.Close
			if !reflect.DeepEqual(f, api.Frame{}) || next != 0 || !errors.Is(err, api.ErrArg) || errors.As(err, &c) {
				t.Errorf("Read(% x, %d) = %+v, %d, %v", b, at, f, next, err)
			}
		}
		wantNoRead(t, "at the length", b, len(b), encoding(0, api.ErrEnd))
	}
	// What lies behind the length is not read.
	wantNoRead(t, "behind the length", []byte{1, 1}[:1], 1, encoding(0, api.ErrEnd))
	wantNoRead(t, "behind the length", []byte{0x10, 0x40, 1}[:2], 0, encoding(api.MaxData, api.ErrEnd))
}

// TestP4_2ReadEnd: bytes that are lacking at every place of every kind, with numbers of all widths.
func TestP4_2ReadEnd(t *testing.T) {
	for _, s := range samples() {
		for _, width := range widths() {
			b := s.encode(1, width)
			wantRead(t, s.name, b, 0, s.f, len(b))
			wantNoRead(t, s.name, b[:0], 0, encoding(0, api.ErrEnd))
			for end := 1; end < s.needs(width); end++ {
				wantNoRead(t, s.name, b[:end], 0, encoding(s.kind, api.ErrEnd))
				wantNoRead(t, s.name, join(run(3), b[:end]), 3, encoding(s.kind, api.ErrEnd))
			}
			for end := s.needs(width); end < len(b); end++ {
				f, next, err := frame.Read(b[:end], 0)
				if next != end || err != nil || s.toEnd && !bytes.Equal(f.Data, s.f.Data[:len(f.Data)]) {
					t.Errorf("%s: Read(% x) = %+v, %d, %v", s.name, b[:end], f, next, err)
				}
			}
		}
	}
	for _, text := range []string{"40", "80", "800000", "c0", "c0000000000000"} {
		wantNoRead(t, "the kind lacks", hx(t, text), 0, encoding(0, api.ErrEnd))
	}
	for _, text := range []string{"07 ffffffffffffffff 00", "07 bfffffff 00", "06 00 ffffffffffffffff 00", "31 ffffffffffffffff", "1c 00 00 ffffffffffffffff 61", "1d 00 ffffffffffffffff", "0a 00 ffffffffffffffff 61", "0f 00 01 c000000000000002 61"} {
		b := hx(t, text)
		wantNoRead(t, "more than there is", b, 0, encoding(int(b[0]), api.ErrEnd))
	}
}

// TestP4_2ReadWideKind: a kind in more bytes than it needs, of every kind that there is, and of others; whatever stands behind it.
func TestP4_2ReadWideKind(t *testing.T) {
	for _, s := range samples() {
		for _, width := range widths()[1:] {
			wantNoRead(t, s.name, s.encode(width, 1), 0, violation(s.kind))
			wantNoRead(t, s.name+", lacking", wide(s.kind, width), 0, violation(s.kind))
		}
	}
	for _, kind := range []int{0x1f, 0x20, 0x32, 0x3f} {
		for _, width := range widths()[1:] {
			wantNoRead(t, "no kind", wide(kind, width), 0, violation(kind))
		}
	}
	for _, kind := range []int{0x40, 1<<14 - 1} {
		wantNoRead(t, "no kind", wide(kind, 4), 0, violation(kind))
		wantNoRead(t, "no kind", wide(kind, 8), 0, violation(kind))
	}
	wantNoRead(t, "no kind", wide(1<<14, 8), 0, violation(1<<14))
	wantNoRead(t, "no kind", wide(1<<30-1, 8), 0, violation(1<<30-1))
	wantNoRead(t, "behind padding", hx(t, "00 4000"), 1, violation(0))
	wantRead(t, "padding ahead", hx(t, "00 4000"), 0, api.Frame{Kind: api.Padding, Count: 1}, 1)
}

func TestP4_2ReadKind(t *testing.T) {
	kinds := []int{1<<14 - 1, 1 << 14, 1<<14 + 1, 1<<30 - 1, 1 << 30, 1<<32 + 1, api.MaxVar - 1, api.MaxVar}
	for kind := range 300 {
		kinds = append(kinds, kind)
	}
	for _, kind := range kinds {
		if !isStanding(kind) {
			wantNoRead(t, "no kind", wide(kind, 1), 0, encoding(kind, api.ErrKind))
			wantNoRead(t, "no kind", join(wide(kind, 1), run(30)), 0, encoding(kind, api.ErrKind))
		}
	}
}

// TestP4_2ReadNumbers: each number at and beside its edges, in all the bytes that can hold it.
func TestP4_2ReadNumbers(t *testing.T) {
	for _, n := range numbers() {
		s := sampleOf(n.kind)
		s.parts = slices.Clone(s.parts)
		for _, v := range append(edges(), n.most-1, n.most, n.most+1) {
			if v < 0 || v > api.MaxVar {
				continue
			}
			s.parts[n.part], *n.at(&s.f) = v, v
			for _, width := range widths() {
				b := s.encode(1, width)
				if v > n.most {
					wantNoRead(t, n.name, b, 0, encoding(s.kind, api.ErrForm))
				} else {
					wantRead(t, n.name, b, 0, s.f, len(b))
				}
			}
		}
	}
}

// TestP4_2ReadForm: what may not be, by the table, though all its bytes are there.
func TestP4_2ReadForm(t *testing.T) {
	for _, x := range []struct {
		name string
		text string
		kind int
	}{
		{"no token", "07 00", 7},
		{"no token, in two bytes", "07 4000", 7},
		{"no token, and more", "07 00 01 01", 7},
		{"the end of an offset", "06 ffffffffffffffff 01 61", 6},
		{"the end of an offset", "06 fffffffffffffffe 02 6161", 6},
		{"a stream's end", "0c 00 ffffffffffffffff 61", 0x0c},
		{"a stream's end", "0d 00 fffffffffffffffe 6161", 0x0d},
		{"a stream's end", "0e 00 ffffffffffffffff 01 61", 0x0e},
		{"a stream's end", "0f 00 fffffffffffffffe 02 6161 01", 0x0f},
		{"streams", "12 d000000000000001", 0x12},
		{"streams", "13 d000000000000001", 0x13},
		{"streams", "16 d000000000000001", 0x16},
		{"streams", "17 d000000000000001", 0x17},
		{"streams", "12 ffffffffffffffff", 0x12},
		{"Retire", "18 00 01 01 07" + resetText, 0x18},
		{"Retire", "18 7fff bfffffff 01 07" + resetText, 0x18},
		{"no identifier", "18 01 00 00" + resetText, 0x18},
		{"a long identifier", "18 01 00 15 070707070707070707070707070707070707070707" + resetText, 0x18},
	} {
		wantNoRead(t, x.name, hx(t, x.text), 0, encoding(x.kind, api.ErrForm))
		wantNoRead(t, x.name, join(run(2), hx(t, x.text)), 2, encoding(x.kind, api.ErrForm))
	}
	for size := 21; size < 256; size++ {
		wantNoRead(t, "a long identifier", join([]byte{0x18, 1, 0, byte(size)}, make([]byte, size+16)), 0, encoding(0x18, api.ErrForm))
	}
}

// TestP4_2ReadEdges: beside what may not be.
func TestP4_2ReadEdges(t *testing.T) {
	const most = api.MaxVar
	for _, x := range []struct {
		text string
		want api.Frame
	}{
		{"07 01 61", api.Frame{Kind: api.NewToken, Data: []byte("a")}},
		{"06 ffffffffffffffff 00", api.Frame{Kind: api.CryptoData, Offset: most}},
		{"06 fffffffffffffffe 01 61", api.Frame{Kind: api.CryptoData, Offset: most - 1, Data: []byte("a")}},
		{"0c 00 ffffffffffffffff", api.Frame{Kind: api.Stream, Offset: most}},
		{"0c 00 fffffffffffffffe 61", api.Frame{Kind: api.Stream, Offset: most - 1, Data: []byte("a")}},
		{"0e ffffffffffffffff fffffffffffffffd 02 6162", api.Frame{Kind: api.Stream, Stream: most, Offset: most - 2, Length: true, Data: []byte("ab")}},
		{"0c 04 00 61", api.Frame{Kind: api.Stream, Stream: 4, Data: []byte("a")}},
		{"0f 04 4000 00", api.Frame{Kind: api.Stream, Stream: 4, Length: true, Fin: true}},
		{"12 cfffffffffffffff", api.Frame{Kind: api.MaxStreamsBidi, Limit: 1<<60 - 1}},
		{"12 d000000000000000", api.Frame{Kind: api.MaxStreamsBidi, Limit: 1 << 60}},
		{"13 d000000000000000", api.Frame{Kind: api.MaxStreamsUni, Limit: 1 << 60}},
		{"16 d000000000000000", api.Frame{Kind: api.StreamsBlockBidi, Limit: 1 << 60}},
		{"17 d000000000000000", api.Frame{Kind: api.StreamsBlockUni, Limit: 1 << 60}},
		{"18 01 01 01 07" + resetText, api.Frame{Kind: api.NewConnectionID, Seq: 1, Retire: 1, ID: []byte{7}, Reset: reset()}},
		{"18 ffffffffffffffff fffffffffffffffe 14 0102030405060708090a0b0c0d0e0f1011121314" + resetText, api.Frame{Kind: api.NewConnectionID, Seq: most, Retire: most - 1, ID: run(20), Reset: reset()}},
	} {
		b := hx(t, x.text)
		wantRead(t, x.text, b, 0, x.want, len(b))
	}
}

// TestP4_2ReadEndFirst: bytes that are lacking are told ahead of what may not be.
func TestP4_2ReadEndFirst(t *testing.T) {
	for _, text := range []string{
		"06 ffffffffffffffff 01", "06 ffffffffffffffff 02 61", "0e 00 ffffffffffffffff 02 61", "18 00 01 01 07 000102", "18 00 01", "18 01 00 00", "18 01 00 15 00" + resetText,
		"18 01 00 ff" + resetText + resetText,
	} {
		b := hx(t, text)
		wantNoRead(t, text, b, 0, encoding(int(b[0]), api.ErrEnd))
	}
}

// TestP4_2ReadAckForm: a number below 0 is told as soon as it would be, whatever lacks behind.
func TestP4_2ReadAckForm(t *testing.T) {
	for _, x := range []struct {
		name string
		text string
		want api.Errno
	}{
		{"the first span", "00 00 00 01", api.ErrForm},
		{"the first span", "07 00 00 08", api.ErrForm},
		{"the first span, more to come", "07 00 05 08", api.ErrForm},
		{"the first span, to the greatest", "fffffffffffffffe 00 00 ffffffffffffffff", api.ErrForm},
		{"the gap at 0", "00 00 01 00 00", api.ErrForm},
		{"the gap at 1", "01 00 01 00 00 00", api.ErrForm},
		{"the gap at 1, the span lacks", "01 00 01 00 00", api.ErrForm},
		{"the gap, more to come", "07 00 05 02 04", api.ErrForm},
		{"the gap of the greatest", "07 00 01 02 ffffffffffffffff", api.ErrForm},
		{"the second span", "07 00 01 02 01 03", api.ErrForm},
		{"the second span, more to come", "07 00 02 02 01 03", api.ErrForm},
		{"the second span, to the greatest", "07 00 01 02 01 ffffffffffffffff", api.ErrForm},
		{"the third gap", "0a 00 02 00 00 08 00", api.ErrForm},
		{"the gap lacks", "07 00 01 02", api.ErrEnd},
		{"the second span lacks", "07 00 01 02 01", api.ErrEnd},
		{"the second span lacks a byte", "07 00 01 02 01 40", api.ErrEnd},
		{"the first span lacks", "07 00 01", api.ErrEnd},
		{"the count lacks", "07 00", api.ErrEnd},
		{"the delay lacks", "07", api.ErrEnd},
		{"all lacks", "", api.ErrEnd},
		{"too many", "07 00 4100", api.ErrBig},
		{"too many, and more", "07 00 4100 08 00 00", api.ErrBig},
		{"too many, the span below 0", "00 00 4100 01", api.ErrBig},
		{"far too many", "07 00 ffffffffffffffff 00", api.ErrBig},
		{"too many, in eight bytes", "07 00 c000000000000100", api.ErrBig},
		{"as many as may be", "07 00 40ff", api.ErrEnd},
		{"as many as may be, below 0", "07 00 40ff 08", api.ErrForm},
	} {
		wantNoRead(t, x.name, hx(t, "02"+x.text), 0, encoding(api.Ack, x.want))
		wantNoRead(t, x.name, hx(t, "03"+x.text), 0, encoding(api.AckEcn, x.want))
	}
	for _, text := range []string{"00", "00 00", "00 00 40", "00 c0000000 000000"} {
		wantNoRead(t, "marks that lack", hx(t, "03 07 00 00 02"+text), 0, encoding(api.AckEcn, api.ErrEnd))
	}
}

func TestP4_2ReadSpans(t *testing.T) {
	for _, n := range []int{1, 2, 64, api.MaxSpans - 1, api.MaxSpans, api.MaxSpans + 1, api.MaxSpans + 2, 1000} {
		behind := join(wide(2*n-2, 1), []byte{0}, wide(n-1, 1), make([]byte, 2*n-1))
		ack, ecn := join([]byte{2}, behind), join([]byte{3}, behind, []byte{1, 2, 3})
		if n > api.MaxSpans {
			wantNoRead(t, "many", ack, 0, encoding(api.Ack, api.ErrBig))
			wantNoRead(t, "many", ecn, 0, encoding(api.AckEcn, api.ErrBig))
			continue
		}
		wantRead(t, "many", ack, 0, api.Frame{Kind: api.Ack, Acks: apart(n, 0)}, len(ack))
		wantRead(t, "many", ecn, 0, api.Frame{Kind: api.AckEcn, Acks: apart(n, 0), Ecn: [3]int{1, 2, 3}}, len(ecn))
	}
	for _, x := range []struct {
		text  string
		spans []api.Span
	}{
		{"ffffffffffffffff 00 00 ffffffffffffffff", spans(0, api.MaxVar)},
		{"ffffffffffffffff 00 00 00", spans(api.MaxVar, api.MaxVar)},
		{"ffffffffffffffff 00 01 00 fffffffffffffffd 00", spans(api.MaxVar, api.MaxVar, 0, 0)},
		{"02 00 01 00 00 00", spans(2, 2, 0, 0)},
		{"06 00 01 02 00 02", spans(4, 6, 0, 2)},
		{"06 00 01 02 01 01", spans(4, 6, 0, 1)},
	} {
		b := hx(t, "02"+x.text)
		wantRead(t, "spans", b, 0, api.Frame{Kind: api.Ack, Acks: x.spans}, len(b))
	}
}

// TestP4_2ReadPadding: all bytes 0 that stand there, and none beside.
func TestP4_2ReadPadding(t *testing.T) {
	for _, count := range []int{1, 2, 63, 64, 1200, api.MaxBuffer, api.MaxBuffer + 1} {
		zeros := make([]byte, count)
		want := api.Frame{Kind: api.Padding, Count: count}
		wantRead(t, "alone", zeros, 0, want, count)
		wantRead(t, "ahead", join(zeros, []byte{1, 0, 0}), 0, want, count)
		wantRead(t, "behind", join([]byte{1}, zeros), 1, want, 1+count)
		wantRead(t, "from the last on", zeros, count-1, api.Frame{Kind: api.Padding, Count: 1}, count)
	}
	// What lies behind the length is not counted.
	wantRead(t, "spare room", make([]byte, 10)[:4], 0, api.Frame{Kind: api.Padding, Count: 4}, 4)
}

// TestP4_2ReadBig: the table has no greatest length of Data; that is Put's.
func TestP4_2ReadBig(t *testing.T) {
	for _, size := range []int{api.MaxBuffer, api.MaxBuffer + 1} {
		data := bytes.Repeat([]byte{7}, size)
		b := join([]byte{0x30}, data)
		wantRead(t, "datagram", b, 0, api.Frame{Kind: api.Datagram, Data: data}, len(b))
		b = join([]byte{0x07}, wide(size, 1), data, []byte{1})
		wantRead(t, "token", b, 0, api.Frame{Kind: api.NewToken, Data: data}, len(b)-1)
	}
}

func TestP4_3All(t *testing.T) {
	var b []byte
	var want []api.Frame
	for _, s := range samples() {
		wantAll(t, s.name, hx(t, s.text), []api.Frame{s.f})
		if s.toEnd || s.name == "paddings" {
			continue
		}
		b = append(b, hx(t, s.text)...)
		want = append(want, s.f)
		wantAll(t, "up to "+s.name, b, want)
		for _, last := range samples() {
			if s.kind != api.Padding || last.kind != api.Padding {
				wantAll(t, "up to "+s.name+", then "+last.name, join(b, hx(t, last.text)), append(want[:len(want):len(want)], last.f))
			}
		}
	}
	wantAll(t, "padding, then a ping", []byte{0, 0, 1}, []api.Frame{{Kind: api.Padding, Count: 2}, {Kind: api.Ping}})
	wantAll(t, "padding between", []byte{1, 0, 0, 0, 1, 0}, []api.Frame{{Kind: api.Ping}, {Kind: api.Padding, Count: 3}, {Kind: api.Ping}, {Kind: api.Padding, Count: 1}})
	wantAll(t, "spare room", []byte{1, 1, 1}[:2], []api.Frame{{Kind: api.Ping}, {Kind: api.Ping}})
}

func wantAll(t *testing.T, name string, b []byte, want []api.Frame) {
	t.Helper()
	if all, err := frame.All(b); !sameAll(all, want) || err != nil {
		t.Errorf("%s: All(% x) = %+v, %v; want %+v", name, cut(b), all, err, want)
	}
}

func wantNotAll(t *testing.T, name string, b []byte, want api.Close) {
	t.Helper()
	all, err := frame.All(b)
	if all != nil {
		t.Errorf("%s: All(% x) = %+v beside an error", name, cut(b), all)
	}
	wantClose(t, name, b, err, want)
}

func TestP4_3AllWrong(t *testing.T) {
	wantNotAll(t, "nil", nil, violation(0))
	wantNotAll(t, "none", []byte{}, violation(0))
	wantNotAll(t, "none, with spare room", []byte{1}[:0], violation(0))
	for _, ahead := range []string{"", "01", "00", "0100 06 00 02 6162", "02 07 00 01 02 01 01"} {
		for _, behind := range []string{"", "01", "20", "0700", "4001"} {
			if behind == "" {
				wantNotAll(t, "lacking", hx(t, ahead+"04 01"), encoding(4, api.ErrEnd))
				wantNotAll(t, "lacking", hx(t, ahead+"40"), encoding(0, api.ErrEnd))
			}
			wantNotAll(t, "no kind", hx(t, ahead+"20"+behind), encoding(0x20, api.ErrKind))
			wantNotAll(t, "no token", hx(t, ahead+"0700"+behind), encoding(7, api.ErrForm))
			wantNotAll(t, "a wide kind", hx(t, ahead+"4001"+behind), violation(1))
			wantNotAll(t, "a wide padding", hx(t, ahead+"4000"+behind), violation(0))
			wantNotAll(t, "too many spans", hx(t, ahead+"0200004100"+behind), encoding(2, api.ErrBig))
			wantNotAll(t, "a stream's end", hx(t, ahead+"0f00ffffffffffffffff0161"+behind), encoding(0x0f, api.ErrForm))
		}
	}
}
