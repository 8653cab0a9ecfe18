package octet_test

import (
	"bytes"
	"math"
	"testing"

	"caravel/api"
	"caravel/octet"
)

// numbers are those of which the chapter says that they are edges, those beside them, and ordinary ones.
func numbers() []int {
	out := []int{0, 1, 2, 37, 15293, 494878333, 151288809941952652, api.MaxVar - 1, api.MaxVar}
	for _, bits := range []int{6, 7, 8, 14, 15, 16, 23, 24, 30, 31, 32, 40, 61} {
		out = append(out, 1<<bits-2, 1<<bits-1, 1<<bits, 1<<bits+1)
	}
	return out
}

// wrongNumbers are none from 0 to MaxVar.
func wrongNumbers() []int {
	return []int{-1, -2, -64, math.MinInt, 1 << 62, 1<<62 + 1, math.MaxInt}
}

// wrongCounts are, of every call, no number of bytes.
func wrongCounts() []int {
	return []int{math.MinInt, -8, -1, 0, 9, 10, 16, 64, 256, math.MaxInt}
}

// wrongPlaces are none in size bytes.
func wrongPlaces(size int) []int {
	return []int{math.MinInt, -2, -1, size + 1, size + 2, math.MaxInt}
}

// roomy tells bytes with spare room behind them, filled so that a write into it is seen.
func roomy(text string) []byte {
	whole := append([]byte(text), "................"...)
	return whole[:len(text)]
}

func TestP1_1Size(t *testing.T) {
	for _, x := range []struct{ v, n int }{
		{0, 1}, {1, 1}, {37, 1}, {1<<6 - 1, 1},
		{1 << 6, 2}, {15293, 2}, {1<<14 - 1, 2},
		{1 << 14, 4}, {494878333, 4}, {1<<30 - 1, 4},
		{1 << 30, 8}, {1 << 32, 8}, {1<<61 + 1, 8}, {1<<62 - 1, 8},
	} {
		if n, e := octet.Size(x.v); n != x.n || e != api.OK {
			t.Errorf("Size(%d) = %d, %d; want %d", x.v, n, int(e), x.n)
		}
	}
	for _, v := range wrongNumbers() {
		if n, e := octet.Size(v); n != 0 || e != api.ErrArg {
			t.Errorf("Size(%d) = %d, %d", v, n, int(e))
		}
	}
}

func TestP1_1PutVar(t *testing.T) {
	for _, x := range []struct {
		v    int
		want string
	}{
		{0, "\x00"}, {37, "\x25"}, {1<<6 - 1, "\x3f"},
		{1 << 6, "\x40\x40"}, {15293, "\x7b\xbd"}, {1<<14 - 1, "\x7f\xff"},
		{1 << 14, "\x80\x00\x40\x00"}, {494878333, "\x9d\x7f\x3e\x7d"}, {1<<30 - 1, "\xbf\xff\xff\xff"},
		{1 << 30, "\xc0\x00\x00\x00\x40\x00\x00\x00"},
		{151288809941952652, "\xc2\x19\x7c\x5e\xff\x14\xe8\x8c"},
		{1<<62 - 1, "\xff\xff\xff\xff\xff\xff\xff\xff"},
	} {
		for _, ahead := range []string{"", "ab"} {
			if b, e := octet.PutVar([]byte(ahead), x.v); string(b) != ahead+x.want || e != api.OK {
				t.Errorf("PutVar(%q, %d) = % x, %d; want % x behind", ahead, x.v, b, int(e), x.want)
			}
		}
	}
	if b, e := octet.PutVar(nil, 37); string(b) != "\x25" || e != api.OK {
		t.Errorf("PutVar(nil, 37) = % x, %d", b, int(e))
	}
	for _, v := range wrongNumbers() {
		if b, e := octet.PutVar([]byte("ab"), v); len(b) != 0 || e != api.ErrArg {
			t.Errorf("PutVar(%d) = % x, %d", v, b, int(e))
		}
	}
}

func TestP1_1PutWide(t *testing.T) {
	for _, x := range []struct {
		v, n int
		want string
	}{
		{0, 1, "\x00"}, {0, 2, "\x40\x00"}, {0, 4, "\x80\x00\x00\x00"}, {0, 8, "\xc0\x00\x00\x00\x00\x00\x00\x00"},
		{37, 2, "\x40\x25"}, {1<<6 - 1, 1, "\x3f"}, {1<<14 - 1, 2, "\x7f\xff"}, {15293, 4, "\x80\x00\x3b\xbd"},
		{1<<30 - 1, 4, "\xbf\xff\xff\xff"}, {494878333, 8, "\xc0\x00\x00\x00\x1d\x7f\x3e\x7d"},
		{1<<62 - 1, 8, "\xff\xff\xff\xff\xff\xff\xff\xff"},
	} {
		for _, ahead := range []string{"", "ab"} {
			if b, e := octet.PutWide([]byte(ahead), x.v, x.n); string(b) != ahead+x.want || e != api.OK {
				t.Errorf("PutWide(%q, %d, %d) = % x, %d", ahead, x.v, x.n, b, int(e))
			}
		}
	}
	for _, x := range []struct{ v, n int }{
		{1 << 6, 1}, {1<<6 + 1, 1}, {1 << 14, 1}, {1 << 14, 2}, {1 << 30, 2}, {1 << 30, 4}, {1<<62 - 1, 4}, {1<<62 - 1, 1},
	} {
		if b, e := octet.PutWide([]byte("ab"), x.v, x.n); len(b) != 0 || e != api.ErrBig {
			t.Errorf("PutWide(%d, %d) = % x, %d", x.v, x.n, b, int(e))
		}
	}
}

// TestP1_1PutWideOrder: an argument that may not be comes ahead of a number that does not fit.
func TestP1_1PutWideOrder(t *testing.T) {
	for _, n := range append(wrongCounts(), 3, 5, 6, 7) {
		for _, v := range []int{0, 63, 64, 1 << 14, 1 << 30, api.MaxVar, -1, 1 << 62} {
			if b, e := octet.PutWide([]byte("ab"), v, n); len(b) != 0 || e != api.ErrArg {
				t.Errorf("PutWide(%d, %d) = % x, %d", v, n, b, int(e))
			}
		}
	}
	for _, v := range wrongNumbers() {
		for _, n := range []int{1, 2, 4, 8} {
			if b, e := octet.PutWide([]byte("ab"), v, n); len(b) != 0 || e != api.ErrArg {
				t.Errorf("PutWide(%d, %d) = % x, %d", v, n, b, int(e))
			}
		}
	}
}

func TestP1_2Var(t *testing.T) {
	for _, x := range []struct {
		b           string
		at, v, next int
	}{
		{"\x25", 0, 37, 1}, {"\x40\x25", 0, 37, 2}, {"\x80\x00\x00\x25", 0, 37, 4},
		{"\xc0\x00\x00\x00\x00\x00\x00\x25", 0, 37, 8},
		{"\x3f\xff", 0, 63, 1}, {"\x7f\xff\xff", 0, 1<<14 - 1, 2}, {"\xbf\xff\xff\xff\xff", 0, 1<<30 - 1, 4},
		{"\xff\xff\xff\xff\xff\xff\xff\xff\xff", 0, api.MaxVar, 8},
		{"ab\x7b\xbdc", 2, 15293, 4}, {"ab\x25", 2, 37, 3}, {"\xc2\x19\x7c\x5e\xff\x14\xe8\x8c", 0, 151288809941952652, 8},
	} {
		if v, next, e := octet.Var([]byte(x.b), x.at); v != x.v || next != x.next || e != api.OK {
			t.Errorf("Var(% x, %d) = %d, %d, %d; want %d, %d", x.b, x.at, v, next, int(e), x.v, x.next)
		}
	}
}

func TestP1_2VarWrong(t *testing.T) {
	for _, b := range []string{"", "\x25", "\xc0", "\x40\x25\x00"} {
		for _, at := range wrongPlaces(len(b)) {
			if v, next, e := octet.Var([]byte(b), at); v != 0 || next != 0 || e != api.ErrArg {
				t.Errorf("Var(% x, %d) = %d, %d, %d", b, at, v, next, int(e))
			}
		}
		if v, next, e := octet.Var([]byte(b), len(b)); v != 0 || next != 0 || e != api.ErrEnd {
			t.Errorf("Var(% x, its length) = %d, %d, %d", b, v, next, int(e))
		}
	}
	for _, v := range []int{1 << 6, 1 << 14, 1 << 30} {
		full, _ := octet.PutVar([]byte("a"), v)
		for end := 1; end < len(full); end++ {
			// What lies behind the length must not be read: the number's rest is there.
			if v, next, e := octet.Var(full[:end], 1); v != 0 || next != 0 || e != api.ErrEnd {
				t.Errorf("Var(% x, 1) = %d, %d, %d", full[:end], v, next, int(e))
			}
		}
	}
	if v, next, e := octet.Var(nil, 0); v != 0 || next != 0 || e != api.ErrEnd {
		t.Errorf("Var(nil, 0) = %d, %d, %d", v, next, int(e))
	}
}

func TestP1_3Put(t *testing.T) {
	for _, x := range []struct {
		v    uint64
		n    int
		want string
	}{
		{0, 1, "\x00"}, {0x25, 1, "\x25"}, {0x1ff, 1, "\xff"}, {0x1234, 2, "\x12\x34"}, {0x123456, 2, "\x34\x56"},
		{0x12, 3, "\x00\x00\x12"}, {0x01020304, 4, "\x01\x02\x03\x04"}, {0x0102030405, 5, "\x01\x02\x03\x04\x05"},
		{0xffffffffffffffff, 7, "\xff\xff\xff\xff\xff\xff\xff"},
		{0x0102030405060708, 8, "\x01\x02\x03\x04\x05\x06\x07\x08"}, {1 << 63, 8, "\x80\x00\x00\x00\x00\x00\x00\x00"},
	} {
		for _, ahead := range []string{"", "ab"} {
			if b, e := octet.Put([]byte(ahead), x.v, x.n); string(b) != ahead+x.want || e != api.OK {
				t.Errorf("Put(%q, %x, %d) = % x, %d", ahead, x.v, x.n, b, int(e))
			}
		}
	}
	for _, n := range wrongCounts() {
		if b, e := octet.Put([]byte("ab"), 7, n); len(b) != 0 || e != api.ErrArg {
			t.Errorf("Put(7, %d) = % x, %d", n, b, int(e))
		}
	}
}

func TestP1_3Get(t *testing.T) {
	b := []byte("\xf1\x02\x03\x04\x05\x06\x07\x08\x09")
	for _, x := range []struct {
		at, n int
		v     uint64
	}{
		{0, 1, 0xf1}, {0, 2, 0xf102}, {0, 4, 0xf1020304}, {0, 7, 0xf1020304050607}, {0, 8, 0xf102030405060708},
		{1, 8, 0x0203040506070809}, {3, 3, 0x040506}, {8, 1, 0x09}, {4, 5, 0x0506070809},
	} {
		if v, next, e := octet.Get(b, x.at, x.n); v != x.v || next != x.at+x.n || e != api.OK {
			t.Errorf("Get(%d, %d) = %x, %d, %d", x.at, x.n, v, next, int(e))
		}
	}
}

func TestP1_3GetWrong(t *testing.T) {
	full := []byte("\x01\x02\x03\x04\x05\x06\x07\x08\x09\x0a")
	for size := range 4 {
		b := full[:size]
		for _, n := range wrongCounts() {
			for _, at := range append(wrongPlaces(size), 0, size) {
				if v, next, e := octet.Get(b, at, n); v != 0 || next != 0 || e != api.ErrArg {
					t.Errorf("Get(% x, %d, %d) = %x, %d, %d", b, at, n, v, next, int(e))
				}
			}
		}
		for n := 1; n <= 8; n++ {
			for _, at := range wrongPlaces(size) {
				if v, next, e := octet.Get(b, at, n); v != 0 || next != 0 || e != api.ErrArg {
					t.Errorf("Get(% x, %d, %d) = %x, %d, %d", b, at, n, v, next, int(e))
				}
			}
			for at := max(0, size-n+1); at <= size; at++ {
				if v, next, e := octet.Get(b, at, n); v != 0 || next != 0 || e != api.ErrEnd {
					t.Errorf("Get(% x, %d, %d) = %x, %d, %d", b, at, n, v, next, int(e))
				}
			}
		}
	}
}

func TestP1_4Short(t *testing.T) {
	for _, x := range []struct{ number, acked, n int }{
		{0, -1, 1}, {10, -1, 1}, {10, 9, 1}, {126, -1, 1}, {127, -1, 2}, {127, 0, 1}, {128, 0, 2},
		{1<<15 - 1, 0, 2}, {1<<15 - 1, -1, 3}, {1 << 15, 0, 3}, {44253, 0, 3},
		{1<<23 - 1, 0, 3}, {1<<23 - 1, -1, 4}, {1 << 23, 0, 4},
		{1<<31 - 1, 0, 4}, {1 << 31, 0, 4}, {1 << 40, -1, 4},
		{0xac5c02, 0xabe8b3, 2}, {0xace8fe, 0xabe8b3, 3},
		{api.MaxVar, api.MaxVar - 1, 1}, {api.MaxVar, api.MaxVar - 127, 1}, {api.MaxVar, api.MaxVar - 128, 2},
		{api.MaxVar, 0, 4}, {api.MaxVar, -1, 4},
	} {
		if n, e := octet.Short(x.number, x.acked); n != x.n || e != api.OK {
			t.Errorf("Short(%d, %d) = %d, %d; want %d", x.number, x.acked, n, int(e), x.n)
		}
	}
}

func TestP1_4ShortWrong(t *testing.T) {
	for _, number := range wrongNumbers() {
		for _, acked := range []int{-2, -1, 0, 5} {
			if n, e := octet.Short(number, acked); n != 0 || e != api.ErrArg {
				t.Errorf("Short(%d, %d) = %d, %d", number, acked, n, int(e))
			}
		}
	}
	for _, number := range numbers() {
		for _, acked := range []int{math.MinInt, -3, -2, number, number + 1, math.MaxInt} {
			if n, e := octet.Short(number, acked); n != 0 || e != api.ErrArg {
				t.Errorf("Short(%d, %d) = %d, %d", number, acked, n, int(e))
			}
		}
	}
}

func TestP1_5Whole(t *testing.T) {
	const top = api.MaxVar
	for _, x := range []struct {
		low               uint64
		n, greatest, want int
	}{
		{0x9b32, 2, 0xa82f30ea, 0xa82f9b32},
		{0, 1, -1, 0}, {5, 1, -1, 5}, {0xff, 1, -1, 0xff}, {0xffffffff, 4, -1, 0xffffffff},
		// as near to 128: 0 and 256; one less, one more
		{0, 1, 127, 256}, {0, 1, 126, 0}, {0, 1, 128, 256},
		// as near to 384 + 5: 261 and 517
		{5, 1, 388, 517}, {5, 1, 387, 261},
		{0, 2, 1<<15 - 1, 1 << 16}, {0, 3, 1<<23 - 1, 1 << 24}, {0, 4, 1<<31 - 1, 1 << 32}, {0, 4, 1<<31 - 2, 0},
		{0xff, 1, 256, 255}, {0xff, 1, 1<<20 - 1, 1<<20 - 1},
		// nothing is above MaxVar, however near it were
		{0, 1, top, top - 255}, {0, 1, top - 1, top - 255}, {0x7f, 1, top, top - 128}, {0xff, 1, top, top}, {0xff, 1, top - 1, top},
		{0, 2, top, top - 1<<16 + 1}, {0, 3, top, top - 1<<24 + 1}, {0, 4, top, top - 1<<32 + 1}, {0xffffffff, 4, top, top},
	} {
		if v, e := octet.Whole(x.low, x.n, x.greatest); v != x.want || e != api.OK {
			t.Errorf("Whole(%x, %d, %x) = %x, %d; want %x", x.low, x.n, x.greatest, v, int(e), x.want)
		}
	}
}

// TestP1_5WholeNearest holds the answer against its two neighbours: farther ones can't be nearer.
func TestP1_5WholeNearest(t *testing.T) {
	for n := 1; n <= 4; n++ {
		period := 1 << (8 * n)
		for _, greatest := range append(numbers(), -1) {
			for _, low := range []int{0, 1, period/2 - 1, period / 2, period/2 + 1, period - 2, period - 1, (greatest + 1 + period/2) % period} {
				v, e := octet.Whole(uint64(low), n, greatest)
				if e != api.OK || v < 0 || v > api.MaxVar || v%period != low {
					t.Fatalf("Whole(%x, %d, %x) = %x, %d", low, n, greatest, v, int(e))
				}
				far := apart(v, greatest+1)
				if above := v + period; above <= api.MaxVar && apart(above, greatest+1) <= far {
					t.Errorf("Whole(%x, %d, %x) = %x, not %x", low, n, greatest, v, above)
				}
				if below := v - period; below >= 0 && apart(below, greatest+1) < far {
					t.Errorf("Whole(%x, %d, %x) = %x, not %x", low, n, greatest, v, below)
				}
			}
		}
	}
}

func apart(x, y int) int { return max(x-y, y-x) }

func TestP1_5WholeWrong(t *testing.T) {
	check := func(low uint64, n, greatest int) {
		if v, e := octet.Whole(low, n, greatest); v != 0 || e != api.ErrArg {
			t.Errorf("Whole(%x, %d, %d) = %d, %d", low, n, greatest, v, int(e))
		}
	}
	for _, n := range append(wrongCounts(), 5, 6, 7, 8) {
		check(0, n, -1)
		check(1, n, 7)
	}
	for n := 1; n <= 4; n++ {
		check(1<<(8*n), n, -1)
		check(1<<(8*n)+1, n, 7)
		check(math.MaxUint64, n, 7)
		for _, greatest := range []int{math.MinInt, -3, -2, api.MaxVar + 1, math.MaxInt} {
			check(0, n, greatest)
		}
	}
}

func TestP1_6PutIsRead(t *testing.T) {
	for _, v := range numbers() {
		least, _ := octet.Size(v)
		for _, n := range []int{1, 2, 4, 8} {
			if n < least {
				continue
			}
			b, e := octet.PutWide([]byte("ab"), v, n)
			if e != api.OK || len(b) != 2+n {
				t.Fatalf("PutWide(%d, %d) = % x, %d", v, n, b, int(e))
			}
			if w, next, e := octet.Var(append(b, 'c'), 2); w != v || next != 2+n || e != api.OK {
				t.Errorf("%d in %d bytes is read as %d, %d, %d", v, n, w, next, int(e))
			}
		}
		if b, _ := octet.PutVar(nil, v); len(b) != least {
			t.Errorf("PutVar(%d) has %d bytes, not %d", v, len(b), least)
		} else if w, next, e := octet.Var(b, 0); w != v || next != least || e != api.OK {
			t.Errorf("%d is read as %d, %d, %d", v, w, next, int(e))
		}
	}
	for _, v := range []uint64{0, 1, 0x80, 0xfedcba9876543210, 0x0123456789abcdef, math.MaxUint64} {
		for n := 1; n <= 8; n++ {
			b, _ := octet.Put([]byte("ab"), v, n)
			if w, next, e := octet.Get(append(b, 'c'), 2, n); w != v<<(64-8*n)>>(64-8*n) || next != 2+n || e != api.OK {
				t.Errorf("%x in %d bytes is read as %x, %d, %d", v, n, w, next, int(e))
			}
		}
	}
}

// TestP1_6ShortIsTold stays below 2^31 numbers from acked: from there on Short is 4 though four bytes can't tell the number.
func TestP1_6ShortIsTold(t *testing.T) {
	for _, number := range numbers() {
		for _, ahead := range []int{1, 2, 100, 127, 128, 129, 1<<15 - 1, 1 << 15, 1<<23 - 1, 1 << 23, 1<<31 - 1} {
			acked := number - ahead
			if acked < -1 {
				continue
			}
			n, _ := octet.Short(number, acked)
			low := uint64(number) & (1<<(8*n) - 1)
			for _, greatest := range []int{acked, acked + ahead/3, acked + ahead/2, number - 2, number - 1} {
				if greatest < acked {
					continue
				}
				if v, e := octet.Whole(low, n, greatest); v != number || e != api.OK {
					t.Errorf("Whole(%x, %d, %d) = %d, %d; want %d", low, n, greatest, v, int(e), number)
				}
			}
		}
	}
}

// TestP1_6ShortIsToldClosely goes through every number that may have come last.
func TestP1_6ShortIsToldClosely(t *testing.T) {
	for _, number := range []int{0, 1, 127, 128, 255, 256, 300, 1 << 20, 1<<32 + 5, api.MaxVar} {
		for acked := max(-1, number-300); acked < number; acked++ {
			n, _ := octet.Short(number, acked)
			for greatest := acked; greatest < number; greatest++ {
				if v, _ := octet.Whole(uint64(number)&(1<<(8*n)-1), n, greatest); v != number {
					t.Fatalf("number %d, acked %d, greatest %d: told as %d", number, acked, greatest, v)
				}
			}
		}
	}
}

// TestMemory: what is handed in is not changed, its spare room neither, and what is handed out is new memory.
func TestMemory(t *testing.T) {
	calls := map[string]func(b []byte) ([]byte, api.Errno){
		"PutVar":  func(b []byte) ([]byte, api.Errno) { return octet.PutVar(b, 15293) },
		"PutWide": func(b []byte) ([]byte, api.Errno) { return octet.PutWide(b, 37, 8) },
		"Put":     func(b []byte) ([]byte, api.Errno) { return octet.Put(b, 0x0102, 3) },
	}
	for name, call := range calls {
		for _, text := range []string{"", "ab"} {
			b := roomy(text)
			before := bytes.Clone(b[:cap(b)])
			out, e := call(b)
			if e != api.OK || !bytes.Equal(b[:cap(b)], before) {
				t.Errorf("%s: %d, changed to % x", name, int(e), b[:cap(b)])
			}
			told := bytes.Clone(out)
			for i := range b[:cap(b)] {
				b[:cap(b)][i] ^= 0xff
			}
			if !bytes.Equal(out, told) {
				t.Errorf("%s: the answer changed to % x", name, out)
			}
			copy(b[:cap(b)], before)
			clear(out[:cap(out)])
			if !bytes.Equal(b[:cap(b)], before) {
				t.Errorf("%s: the answer shares memory with what was handed in", name)
			}
		}
	}
}

// TestMemoryWrong: with an error nothing is changed, and reading changes nothing.
func TestMemoryWrong(t *testing.T) {
	b := roomy("\x7b\xbd")
	before := bytes.Clone(b[:cap(b)])
	octet.PutVar(b, -1)
	octet.PutVar(b, 1<<62)
	octet.PutWide(b, 64, 1)
	octet.PutWide(b, 0, 3)
	octet.Put(b, 7, 0)
	octet.Put(b, 7, 9)
	octet.Var(b, 0)
	octet.Var(b, 2)
	octet.Get(b, 0, 2)
	octet.Get(b, 1, 2)
	if !bytes.Equal(b[:cap(b)], before) {
		t.Errorf("changed to % x", b[:cap(b)])
	}
}
