package header_test

import (
	"bytes"
	"math"
	"slices"
	"testing"

	"caravel/api"
	"caravel/header"
)

// read is bytes, and the header and place that they tell.
type read struct {
	name string
	text string
	ids  int
	h    header.Header
	at   int
}

// reads are ordinary headers of each kind, those with bits that do not count, too.
func reads() []read {
	dst, src := []byte{0xd1, 0xd2}, []byte{0x51, 0x52, 0x53}
	both := "02 d1d2 03 515253"
	return []read{
		{"short with phase", "44 07 05", 1, header.Header{Kind: header.Short, Dst: []byte{7}, Phase: true}, 2},
		{"short", "40 d1d2", 2, header.Header{Kind: header.Short, Dst: dst}, 3},
		{"short of no identifier", "43 d1d2", 0, header.Header{Kind: header.Short}, 1},
		{"short with all other bits", "7f d1d2 00", 2, header.Header{Kind: header.Short, Dst: dst, Phase: true}, 3},
		{"short with all other bits but phase", "7b d1d2 00", 2, header.Header{Kind: header.Short, Dst: dst}, 3},
		{"initial", "c1 00000001" + both + "03 746f6b 4005 0102030405 06", 4, header.Header{Kind: header.Initial, Version: 1, Dst: dst, Src: src, Token: []byte("tok"), Length: 5}, 18},
		{"initial without a token", "cf 00000001 00 00 00 00", 0, header.Header{Kind: header.Initial, Version: 1}, 9},
		{"initial in more bytes than it needs", "c0 00000001 00 00 c000000000000001 74 80000001 09", 0, header.Header{Kind: header.Initial, Version: 1, Token: []byte("t"), Length: 1}, 20},
		{"early", "d0 00000001" + both + "02 0102", 20, header.Header{Kind: header.Early, Version: 1, Dst: dst, Src: src, Length: 2}, 13},
		{"handshake", "ef 00000001" + both + "4001 01 02", 0, header.Header{Kind: header.Handshake, Version: 1, Dst: dst, Src: src, Length: 1}, 14},
		{"retry", "f0 00000001" + both + "74" + tagText, 0, header.Header{Kind: header.Retry, Version: 1, Dst: dst, Src: src, Token: []byte("t"), Tag: tag()}, 29},
		{"retry with all other bits", "ff 00000001 00 00 7475" + tagText, 0, header.Header{Kind: header.Retry, Version: 1, Token: []byte("tu"), Tag: tag()}, 25},
		{"one version", "80 00000000 00 00 00000001", 0, header.Header{Kind: header.Versions, List: []int{1}}, 11},
		{"versions", "ff 00000000" + both + "00000000 ffffffff 00000007", 1, header.Header{Kind: header.Versions, Dst: dst, Src: src, List: []int{0, 1<<32 - 1, 7}}, 24},
		{"other", "c0 00000007" + both + "ffff", 0, header.Header{Kind: header.Other, Version: 7, Dst: dst, Src: src}, 12},
		{"other without the second bit", "80 ffffffff 00 00", 0, header.Header{Kind: header.Other, Version: 1<<32 - 1}, 7},
	}
}

func wantRead(t *testing.T, name string, b []byte, ids int, want header.Header, place int) {
	t.Helper()
	h, at, e := header.Read(b, ids)
	if !same(h, want) || at != place || e != api.OK {
		t.Errorf("%s: Read(% x, %d) = %+v at %d, %d; want %+v at %d", name, b, ids, h, at, int(e), want, place)
	}
}

func wantNoRead(t *testing.T, name string, b []byte, ids int, want api.Errno) {
	t.Helper()
	if h, at, e := header.Read(b, ids); !isZero(h) || at != 0 || e != want {
		t.Errorf("%s: Read(% x, %d) = %+v at %d, %d; want error %d", name, b, ids, h, at, int(e), int(want))
	}
}

func TestP2_2Read(t *testing.T) {
	for _, x := range reads() {
		wantRead(t, x.name, hx(t, x.text), x.ids, x.h, x.at)
	}
}

// TestP2_2ReadIDs: identifiers of short headers alone have ids bytes.
func TestP2_2ReadIDs(t *testing.T) {
	b := join([]byte{0x40}, run(api.MaxID))
	for ids := range api.MaxID + 1 {
		wantRead(t, "short", b, ids, header.Header{Kind: header.Short, Dst: run(ids)}, ids+1)
		wantRead(t, "long", hx(t, "c0 00000007 01 05 00"), ids, header.Header{Kind: header.Other, Version: 7, Dst: []byte{5}}, 8)
		wantRead(t, "just there", b[:ids+1], ids, header.Header{Kind: header.Short, Dst: run(ids)}, ids+1)
		if ids > 0 {
			wantNoRead(t, "one lacks", b[:ids], ids, api.ErrEnd)
			wantNoRead(t, "all lack", b[:1], ids, api.ErrEnd)
		}
	}
	for _, ids := range []int{math.MinInt, -1, api.MaxID + 1, api.MaxID + 2, math.MaxInt} {
		for _, x := range reads() {
			wantNoRead(t, x.name, hx(t, x.text), ids, api.ErrArg)
		}
		wantNoRead(t, "nothing", nil, ids, api.ErrArg)
		wantNoRead(t, "no second bit", []byte{0}, ids, api.ErrArg)
	}
}

// TestP2_2ReadLongIdentifiers: of long headers each may have from none to MaxID bytes.
func TestP2_2ReadLongIdentifiers(t *testing.T) {
	for _, n := range []int{0, 1, api.MaxID - 1, api.MaxID} {
		for _, m := range []int{0, 1, api.MaxID - 1, api.MaxID} {
			ends := join([]byte{byte(n)}, run(n), []byte{byte(m)}, run(m))
			wantRead(t, "early", join(hx(t, "d0 00000001"), ends, hx(t, "01 09")), 0,
				header.Header{Kind: header.Early, Version: 1, Dst: run(n), Src: run(m), Length: 1}, 8+n+m)
			wantRead(t, "other", join(hx(t, "d0 00000002"), ends), 0,
				header.Header{Kind: header.Other, Version: 2, Dst: run(n), Src: run(m)}, 7+n+m)
		}
	}
	for _, n := range []int{api.MaxID + 1, api.MaxID + 2, 64, 128, 255} {
		long, short := join([]byte{byte(n)}, run(n)), []byte{1, 9}
		for _, version := range []string{"00000000", "00000001", "00000007"} {
			start, end := hx(t, "c0"+version), hx(t, "00000001 00000002")
			wantNoRead(t, "Dst", join(start, long, short, end), 0, api.ErrForm)
			wantNoRead(t, "Src", join(start, short, long, end), 0, api.ErrForm)
			wantNoRead(t, "both", join(start, long, long, end), 0, api.ErrForm)
		}
	}
}

// TestP2_2ReadEnd: a beginning of a header lacks bytes, wherever it ends.
func TestP2_2ReadEnd(t *testing.T) {
	wantNoRead(t, "nil", nil, 0, api.ErrEnd)
	wantNoRead(t, "nothing", []byte{}, api.MaxID, api.ErrEnd)
	for _, x := range reads() {
		b, whole := hx(t, x.text), x.at+x.h.Length
		switch x.h.Kind {
		case header.Versions:
			whole = 7 + len(x.h.Dst) + len(x.h.Src)
		case header.Retry:
			whole = 7 + len(x.h.Dst) + len(x.h.Src) + 16
		}
		for n := range whole {
			wantNoRead(t, x.name, b[:n:n], x.ids, api.ErrEnd)
			// What lies behind the length in the memory is not the datagram's.
			wantNoRead(t, x.name, b[:n], x.ids, api.ErrEnd)
		}
	}
}

func TestP2_2ReadVersions(t *testing.T) {
	start, list := hx(t, "80 00000000 01 05 01 06"), run(40)
	for n := range len(list) + 1 {
		b := join(start, list[:n])
		if n == 0 || n%4 != 0 {
			wantNoRead(t, "versions", b, 0, api.ErrForm)
			continue
		}
		h, at, e := header.Read(b, 0)
		if h.Kind != header.Versions || len(h.List) != n/4 || at != len(b) || e != api.OK {
			t.Errorf("%d bytes: %+v at %d, %d", n, h, at, int(e))
		}
		for i, v := range h.List {
			if first := 4*i + 1; v != first<<24|(first+1)<<16|(first+2)<<8|first+3 {
				t.Errorf("version %d is %x", i, v)
			}
		}
	}
}

// TestP2_2ReadTokens: an Initial's has from none to MaxToken bytes, a Retry's at least one.
func TestP2_2ReadTokens(t *testing.T) {
	for _, n := range []int{0, 1, 63, 64, api.MaxToken - 1, api.MaxToken, api.MaxToken + 1, api.MaxToken + 2, 5000} {
		size := []byte{0x40 | byte(n>>8), byte(n)}
		initial := join(hx(t, "c0 00000001 0000"), size, run(n), hx(t, "01 ff"))
		retry := join(hx(t, "f0 00000001 0000"), run(n), run(16))
		if n > api.MaxToken {
			wantNoRead(t, "initial", initial, 0, api.ErrForm)
			wantNoRead(t, "retry", retry, 0, api.ErrForm)
			continue
		}
		wantRead(t, "initial", initial, 0, header.Header{Kind: header.Initial, Version: 1, Token: run(n), Length: 1}, 10+n)
		if n == 0 {
			wantNoRead(t, "retry", retry, 0, api.ErrForm)
			continue
		}
		wantRead(t, "retry", retry, 0, header.Header{Kind: header.Retry, Version: 1, Token: run(n), Tag: tag()}, 23+n)
	}
	for n := range 16 {
		wantNoRead(t, "retry", join(hx(t, "f0 00000001 0000"), run(n)), 0, api.ErrEnd)
	}
}

// TestP2_2ReadLength: what it says must be there; more may be.
func TestP2_2ReadLength(t *testing.T) {
	for _, x := range []struct {
		kind  int
		start string
	}{{header.Initial, "c0 00000001 0000 00"}, {header.Early, "d0 00000001 0000"}, {header.Handshake, "e0 00000001 0000"}} {
		start := hx(t, x.start)
		for _, there := range []int{0, 1, 2, 63, 64, 16383, 16384, 20000} {
			for _, length := range []int{there - 1, there, there + 1} {
				if length < 0 {
					continue
				}
				b := join(start, []byte{0x80, 0, byte(length >> 8), byte(length)}, make([]byte, there))
				if length > there {
					wantNoRead(t, "lacking", b, 0, api.ErrEnd)
					continue
				}
				wantRead(t, "there", b, 0, header.Header{Kind: x.kind, Version: 1, Length: length}, len(start)+4)
			}
		}
		wantNoRead(t, "the greatest", join(start, hx(t, "ffffffffffffffff"), run(99)), 0, api.ErrEnd)
	}
	wantNoRead(t, "the greatest token", join(hx(t, "c0 00000001 0000 ffffffffffffffff"), run(99)), 0, api.ErrEnd)
}

// TestP2_2ReadSecondBit: it must be 1 in short headers, and in long ones of version 1 alone.
func TestP2_2ReadSecondBit(t *testing.T) {
	for low := range 64 {
		wantNoRead(t, "short", join([]byte{byte(low)}, run(30)), 3, api.ErrForm)
		wantNoRead(t, "long", join([]byte{0x80 | byte(low)}, hx(t, "00000001 0000"), run(40)), 3, api.ErrForm)
		wantRead(t, "other", join([]byte{0x80 | byte(low)}, hx(t, "00000002 0000")), 3, header.Header{Kind: header.Other, Version: 2}, 7)
		wantRead(t, "versions", join([]byte{0x80 | byte(low)}, hx(t, "00000000 0000 00000003")), 3, header.Header{Kind: header.Versions, List: []int{3}}, 11)
	}
}

// TestP2_2ReadOrder: where several errors apply, the one that the chapter names first is told.
func TestP2_2ReadOrder(t *testing.T) {
	for _, x := range []struct {
		name string
		b    []byte
		ids  int
		want api.Errno
	}{
		{"ids, and nothing there", nil, -1, api.ErrArg},
		{"ids, and no second bit", []byte{0}, 21, api.ErrArg},
		{"short without second bit, and too short", []byte{0x3f}, 1, api.ErrForm},
		{"Dst too long, and not there", hx(t, "c0 00000001 15 0102"), 0, api.ErrEnd},
		{"Dst too long, one byte lacks", join(hx(t, "c0 00000001 15"), run(20)), 0, api.ErrEnd},
		{"Dst too long, no Src", join(hx(t, "c0 00000001 15"), run(21)), 0, api.ErrEnd},
		{"Src too long, and not there", hx(t, "c0 00000001 00 ff"), 0, api.ErrEnd},
		{"Dst too long of Versions without any", join(hx(t, "c0 00000000 15"), run(21), []byte{0}), 0, api.ErrForm},
		{"no second bit, identifiers not there", hx(t, "80 00000001 05 01"), 0, api.ErrEnd},
		{"no second bit, nothing behind the identifiers", hx(t, "80 00000001 00 00"), 0, api.ErrForm},
		{"no second bit, a Retry's kind", hx(t, "b0 00000001 00 00"), 0, api.ErrForm},
		{"token too long, and not there", join(hx(t, "c0 00000001 00 00 4201"), run(512)), 0, api.ErrEnd},
		{"token too long, no Length", join(hx(t, "c0 00000001 00 00 4201"), run(513)), 0, api.ErrEnd},
		{"token too long, Length more than there is", join(hx(t, "c0 00000001 00 00 4201"), run(513), []byte{9}), 0, api.ErrForm},
		{"Retry too short for its tag", join(hx(t, "f0 00000001 00 00"), run(15)), 0, api.ErrEnd},
	} {
		wantNoRead(t, x.name, x.b, x.ids, x.want)
	}
}

func TestP2_3Number(t *testing.T) {
	const behind = "8877665544332211"
	lows := []uint64{0x88, 0x8877, 0x887766, 0x88776655}
	for first := range 256 {
		n := first&3 + 1
		zero := first&0x18 == 0
		if first&0x80 != 0 {
			zero = first&0x0c == 0
		}
		for _, ahead := range []int{0, 1, 7} {
			b, at := join([]byte{byte(first)}, run(ahead), hx(t, behind)), ahead+1
			if low, k, clear, e := header.Number(b, at); low != lows[n-1] || k != n || clear != zero || e != api.OK {
				t.Errorf("Number(% x, %d) = %x, %d, %v, %d", b, at, low, k, clear, int(e))
			}
		}
	}
}

func TestP2_3NumberWrong(t *testing.T) {
	none := func(b []byte, at int, want api.Errno) {
		t.Helper()
		if low, n, clear, e := header.Number(b, at); low != 0 || n != 0 || clear || e != want {
			t.Errorf("Number(% x, %d) = %x, %d, %v, %d; want error %d", b, at, low, n, clear, int(e), int(want))
		}
	}
	for _, at := range []int{math.MinInt, -1, 0, 1, 2, math.MaxInt} {
		none(nil, at, api.ErrArg)
	}
	for first := range 256 {
		n := first&3 + 1
		b := join([]byte{byte(first)}, run(6))
		for _, at := range []int{math.MinInt, -1, 0, len(b) + 1, len(b) + 2, math.MaxInt} {
			none(b, at, api.ErrArg)
		}
		for at := 1; at <= len(b); at++ {
			if len(b)-at < n {
				none(b, at, api.ErrEnd)
			} else if low, k, _, e := header.Number(b, at); low>>(8*n-8) != uint64(at) || k != n || e != api.OK {
				t.Errorf("Number(% x, %d) = %x, %d, %d", b, at, low, k, int(e))
			}
		}
		// What lies behind the length in the memory is not read.
		none(b[:n], 1, api.ErrEnd)
		none(b[:1], 1, api.ErrEnd)
		none(b[:1], 2, api.ErrArg)
	}
}

// pieces are packets as they stand in datagrams: those that say where they end, and those that go to the end.
func pieces(t *testing.T) (bounded, open [][]byte) {
	bounded = [][]byte{
		hx(t, "c0 00000001 01 07 00 00 4003 000102"),
		hx(t, "c3 00000001 00 00 02 7475 05 0001020304"),
		hx(t, "d0 00000001 00 01 08 01 07"),
		hx(t, "e1 00000001 01 07 01 08 4014 0102030405060708090a0b0c0d0e0f1011121314"),
		hx(t, "e0 00000001 00 00 00"),
	}
	open = [][]byte{
		hx(t, "40 07"),
		hx(t, "44 07 0102030405"),
		hx(t, "f0 00000001 00 00 74"+tagText),
		hx(t, "80 00000000 00 00 00000001"),
		hx(t, "c0 00000007 00 00 00 01 02"),
		hx(t, "00 0102"),                          // no second bit
		hx(t, "40"),                               // no identifier
		hx(t, "c0"),                               // ends too soon
		hx(t, "c0 00000001 00 00 00 05 01020304"), // Length more than there is
		hx(t, "80 00000001 00 00 00 01 09"),       // no second bit
		hx(t, "80 00000000 00 00"),                // no version
	}
	return bounded, open
}

func wantSplit(t *testing.T, ids int, want ...[]byte) {
	t.Helper()
	b := join(want...)
	got := header.Split(b, ids)
	if !slices.EqualFunc(got, want, bytes.Equal) {
		t.Errorf("Split(% x, %d) = %x; want %x", b, ids, got, want)
	}
}

func TestP2_4Split(t *testing.T) {
	if got := header.Split(nil, 1); len(got) != 0 {
		t.Errorf("Split(nil) = %x", got)
	}
	if got := header.Split(roomy(nil), 1); len(got) != 0 {
		t.Errorf("Split(nothing) = %x", got)
	}
	bounded, open := pieces(t)
	for _, p := range bounded {
		wantSplit(t, 1, p)
		for _, q := range bounded {
			wantSplit(t, 1, p, q)
			for _, r := range open {
				wantSplit(t, 1, p, q, r)
			}
		}
		for _, r := range open {
			wantSplit(t, 1, p, r)
		}
	}
	for _, r := range open {
		wantSplit(t, 1, r)
	}
	// None behind is looked for.
	wantSplit(t, 1, join(hx(t, "40 07"), bounded[0]))
	wantSplit(t, 1, join(hx(t, "c0 00000007 00 00"), bounded[0], bounded[1]))
	wantSplit(t, 1, bounded[0], join(hx(t, "f0 00000001 00 00 74"+tagText), bounded[1]))
}

// TestP2_4SplitIDs: with ids that may not be, Read tells nothing of any packet: all go to the end.
func TestP2_4SplitIDs(t *testing.T) {
	bounded, _ := pieces(t)
	for _, ids := range []int{math.MinInt, -1, api.MaxID + 1, math.MaxInt} {
		wantSplit(t, ids, join(bounded...))
		if got := header.Split(nil, ids); len(got) != 0 {
			t.Errorf("Split(nil, %d) = %x", ids, got)
		}
	}
	for _, ids := range []int{0, api.MaxID} {
		wantSplit(t, ids, bounded...)
		wantSplit(t, ids, bounded[0], hx(t, "40"))
	}
}

// TestP2_5PutIsRead: the header, and the number with its place.
func TestP2_5PutIsRead(t *testing.T) {
	for _, x := range packets() {
		b, at, e := header.Put(x.h, x.low, x.n)
		if e != api.OK {
			t.Fatal(x.name, int(e))
		}
		want := x.h
		if want.Kind <= header.Retry {
			want.Version = api.Version
		}
		b = join(b, make([]byte, max(0, x.h.Length-x.n)))
		wantRead(t, x.name, b, len(x.h.Dst), want, at)
		if x.h.Kind == header.Retry || x.h.Kind == header.Versions {
			continue
		}
		low, n, clear, e := header.Number(b, at)
		if low != x.low&(1<<(8*x.n)-1) || n != x.n || !clear || e != api.OK {
			t.Errorf("%s: Number = %x, %d, %v, %d", x.name, low, n, clear, int(e))
		}
	}
}

func TestP2_5EdgesAreRead(t *testing.T) {
	for _, ids := range []int{0, 1, api.MaxID} {
		for _, token := range []int{0, 1, 63, 64, api.MaxToken} {
			for _, length := range []int{4, 63, 64, 16383} {
				h := header.Header{Kind: header.Initial, Version: 1, Dst: run(ids), Src: run(api.MaxID - ids), Token: run(token), Length: length}
				b, at, e := header.Put(h, 1, 4)
				if e != api.OK {
					t.Fatal(int(e))
				}
				b = join(b, make([]byte, length-4))
				wantRead(t, "initial", b, 0, h, at)
				wantSplit(t, 0, b, b)
			}
		}
	}
}

// TestP2_5SplitIsWhole: whatever the datagram, its packets are all of it, none is empty, and all but the last say where they end.
func TestP2_5SplitIsWhole(t *testing.T) {
	bounded, open := pieces(t)
	seed := uint64(1)
	next := func(n int) int {
		seed = seed*6364136223846793005 + 1442695040888963407
		return int(seed>>33) % n
	}
	for range 20000 {
		var b []byte
		for range next(5) {
			b = append(b, bounded[next(len(bounded))]...)
		}
		b = append(b, open[next(len(open))]...)
		for range next(4) {
			b[next(len(b))] = byte(next(256))
		}
		b = b[:next(len(b)+1)]
		ids := next(api.MaxID+3) - 1
		got := header.Split(b, ids)
		if !bytes.Equal(bytes.Join(got, nil), b) {
			t.Fatalf("Split(% x, %d) = %x", b, ids, got)
		}
		rest := b
		for i, p := range got {
			h, at, e := header.Read(rest, ids)
			ends := e == api.OK && h.Kind <= header.Handshake
			if len(p) == 0 || ends && len(p) != at+h.Length || !ends && i != len(got)-1 {
				t.Fatalf("Split(% x, %d) = %x: piece %d", b, ids, got, i)
			}
			rest = rest[len(p):]
		}
	}
}
