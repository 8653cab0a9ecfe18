package params_test

import (
	"bytes"
	"math/rand"
	"slices"
	"testing"

	"caravel/api"
	"caravel/octet"
	"caravel/params"
)

func wantRead(t *testing.T, name string, b []byte, server bool, want params.Params) {
	t.Helper()
	if p, e := params.Read(b, server); !same(p, want) || e != api.OK {
		t.Errorf("%s: Read(% x, %v) = %+v, %d; want %+v", name, b, server, p, int(e), want)
	}
}

func wantNoRead(t *testing.T, name string, b []byte, server bool, want api.Errno) {
	t.Helper()
	if p, e := params.Read(b, server); !same(p, params.Params{}) || e != want {
		t.Errorf("%s: Read(% x, %v) = %+v, %d; want error %d", name, b, server, p, int(e), int(want))
	}
}

// behind are the parameters that must be said: with them, others may be alone.
func behind(server bool) []byte {
	if server {
		return []byte{0, 0, 15, 0}
	}
	return []byte{15, 0}
}

func TestP3_3Read(t *testing.T) {
	for _, x := range puts() {
		wantRead(t, x.name, hx(t, x.text), x.server, x.p)
	}
}

// TestP3_3ReadUnsaid: a value of the last column may be said.
func TestP3_3ReadUnsaid(t *testing.T) {
	for _, server := range []bool{false, true} {
		for _, n := range numerals() {
			value, _ := octet.PutVar(nil, n.unsaid)
			wantRead(t, n.name, append(param(n.number, value), behind(server)...), server, params.Default())
		}
	}
}

// TestP3_3ReadNumbers: numbers at and beside their edges, in all the bytes that can hold them.
func TestP3_3ReadNumbers(t *testing.T) {
	for _, n := range numerals() {
		for _, v := range append(edges(), n.least-1, n.least, n.most, n.most+1) {
			for _, width := range []int{1, 2, 4, 8} {
				value, e := octet.PutWide(nil, v, width)
				if e != api.OK {
					continue
				}
				want := with(func(p *params.Params) { *n.at(p) = v })
				for _, server := range []bool{false, true} {
					b := append(param(n.number, value), behind(server)...)
					if v < n.least || v > n.most {
						wantNoRead(t, n.name, b, server, api.ErrForm)
					} else {
						wantRead(t, n.name, b, server, want)
					}
				}
			}
		}
	}
}

// TestP3_3ReadNumberForm: a value that ends ahead of its number, or goes on behind it, whatever comes next.
func TestP3_3ReadNumberForm(t *testing.T) {
	for _, n := range numerals() {
		for _, width := range []int{1, 2, 4, 8} {
			value, e := octet.PutWide(nil, n.unsaid, width)
			if e != api.OK {
				continue
			}
			for size := range len(value) {
				wantNoRead(t, n.name+" too short", append(param(n.number, value[:size]), behind(false)...), false, api.ErrForm)
				wantNoRead(t, n.name+" too short, at the end", append(behind(true), param(n.number, value[:size])...), true, api.ErrForm)
			}
			for _, more := range []string{"\x00", "\xff", "\x0f\x00", "abcdefgh"} {
				wantNoRead(t, n.name+" too long", append(param(n.number, append(bytes.Clone(value), more...)), behind(false)...), false, api.ErrForm)
			}
		}
	}
}

func TestP3_3ReadIDs(t *testing.T) {
	for _, size := range []int{0, 1, 8, api.MaxID - 1, api.MaxID, api.MaxID + 1, api.MaxID + 2, 64, 300} {
		id := run(size)
		cases := []struct {
			name   string
			server bool
			b      []byte
			p      params.Params
		}{
			{"First", false, param(15, id), with(func(p *params.Params) { p.First = id })},
			{"First", true, append(param(15, id), 0, 0), with(func(p *params.Params) { p.First = id })},
			{"Original", true, append(param(0, id), 15, 0), with(func(p *params.Params) { p.Original = id })},
			{"Again", true, append(param(16, id), 0, 0, 15, 0), with(func(p *params.Params) { p.Again, p.HasAgain = id, true })},
		}
		for _, x := range cases {
			if size > api.MaxID {
				wantNoRead(t, x.name, x.b, x.server, api.ErrForm)
			} else {
				wantRead(t, x.name, x.b, x.server, x.p)
			}
		}
	}
}

func TestP3_3ReadReset(t *testing.T) {
	for size := range 40 {
		b := append(param(2, run(size)), behind(true)...)
		if size == 16 {
			wantRead(t, "Reset", b, true, with(func(p *params.Params) { p.Reset, p.HasReset = token(), true }))
		} else {
			wantNoRead(t, "Reset", b, true, api.ErrForm)
		}
	}
	wantRead(t, "Reset of 0", append(param(2, make([]byte, 16)), behind(true)...), true, with(func(p *params.Params) { p.HasReset = true }))
}

func TestP3_3ReadStill(t *testing.T) {
	for _, server := range []bool{false, true} {
		wantRead(t, "Still", append(param(12, nil), behind(server)...), server, with(func(p *params.Params) { p.Still = true }))
		for _, value := range []string{"\x00", "\x01", "ab"} {
			wantNoRead(t, "Still with a value", append(param(12, []byte(value)), behind(server)...), server, api.ErrForm)
		}
	}
}

// TestP3_3ReadServersAlone: of a client they are wrong however they are formed, and whatever was said ahead.
func TestP3_3ReadServersAlone(t *testing.T) {
	for _, text := range []string{"0000", "000101", "0210" + tokenText, "0200", "0210 00000000000000000000000000000000", "1000", "1003010203"} {
		b := hx(t, text)
		wantNoRead(t, "of servers alone", append(bytes.Clone(b), behind(false)...), false, api.ErrForm)
		wantNoRead(t, "of servers alone", append(behind(false), b...), false, api.ErrForm)
	}
}

func TestP3_3ReadUnknown(t *testing.T) {
	for _, number := range []int{13, 17, 18, 31, 33, 63, 64, 255, 256, 1 << 14, 1 << 30, 1 << 32, 1<<32 + 1, 1<<32 + 15, api.MaxVar} {
		for _, size := range []int{0, 1, 2, 16, 63, 64, 1000} {
			for _, server := range []bool{false, true} {
				unknown := param(number, run(size))
				wantRead(t, "unknown ahead", append(bytes.Clone(unknown), behind(server)...), server, params.Default())
				wantRead(t, "unknown behind", append(behind(server), unknown...), server, params.Default())
				wantNoRead(t, "unknown alone", unknown, server, api.ErrForm)
				twice := slices.Concat(unknown, behind(server), param(number, nil))
				wantNoRead(t, "unknown twice", twice, server, api.ErrTwice)
			}
		}
	}
}

// TestP3_3ReadMany: those that are passed over may be many.
func TestP3_3ReadMany(t *testing.T) {
	var b []byte
	for number := 1000; number < 20000; number++ {
		b = append(b, param(number, []byte{1})...)
	}
	wantRead(t, "many", append(bytes.Clone(b), 15, 0), false, params.Default())
	wantNoRead(t, "many and one again", append(append(b, 15, 0), param(1000, nil)...), false, api.ErrTwice)
}

// TestP3_3ReadTwice: each one, also the same value again, and also in more bytes.
func TestP3_3ReadTwice(t *testing.T) {
	all, _ := params.Put(greatest(true), true)
	one := map[int][]byte{}
	for at := 0; at < len(all); {
		size := int(all[at+1])
		one[int(all[at])] = all[at : at+2+size]
		at += 2 + size
	}
	if len(one) != 17 {
		t.Fatalf("%d parameters", len(one))
	}
	for number, p := range one {
		wantNoRead(t, "twice", slices.Concat(all, p), true, api.ErrTwice)
		wantNoRead(t, "twice at once", slices.Concat(p, p), true, api.ErrTwice)
		wide, _ := octet.PutWide(nil, number, 4)
		wantNoRead(t, "twice, the number wider", slices.Concat(p, wide, p[1:]), true, api.ErrTwice)
		wantNoRead(t, "twice, and formed wrongly", slices.Concat(p, param(number, run(33))), true, api.ErrTwice)
	}
}

func TestP3_3ReadOrder(t *testing.T) {
	for _, server := range []bool{false, true} {
		all, _ := params.Put(greatest(server), server)
		var parts [][]byte
		for at := 0; at < len(all); {
			size := 2 + int(all[at+1])
			parts = append(parts, all[at:at+size])
			at += size
		}
		random := rand.New(rand.NewSource(3))
		for range 100 {
			random.Shuffle(len(parts), func(i, j int) { parts[i], parts[j] = parts[j], parts[i] })
			wantRead(t, "in any order", slices.Concat(parts...), server, greatest(server))
		}
	}
}

// TestP3_3ReadWide: numbers of parameters, and lengths, may be in more bytes than they need.
func TestP3_3ReadWide(t *testing.T) {
	for _, width := range []int{1, 2, 4, 8} {
		number, _ := octet.PutWide(nil, 1, width)
		length, _ := octet.PutWide(nil, 2, width)
		b := slices.Concat(number, length, []byte{0x40, 30}, behind(false))
		wantRead(t, "wide", b, false, with(func(p *params.Params) { p.Idle = 30 }))
	}
}

// TestP3_3ReadEnd: bytes cut anywhere but between parameters; what lies behind the length is not read.
func TestP3_3ReadEnd(t *testing.T) {
	all, _ := params.Put(greatest(true), true)
	unknown := slices.Concat(param(1<<30, run(70)), all)
	for _, b := range [][]byte{all, unknown} {
		whole := map[int]int{0: 1}
		for at := 0; at < len(b); {
			_, next, _ := octet.Var(b, at)
			size, next, _ := octet.Var(b, next)
			at = next + size
			whole[at] = 1
		}
		for end := range len(b) {
			if whole[end] == 0 {
				wantNoRead(t, "cut", b[:end], true, api.ErrEnd)
			}
		}
	}
	for _, text := range []string{"0f", "40", "0f40", "0f01", "0f14 00", "0fffffffffffffffffff 00", "21 bfffffff 00", "80000f", "0f c0000000000000"} {
		wantNoRead(t, "lacking", hx(t, text), false, api.ErrEnd)
		wantNoRead(t, "lacking", hx(t, text), true, api.ErrEnd)
	}
}

// TestP3_3ReadFirstThatApplies: of one parameter ErrEnd, ErrTwice, ErrForm; of several the first that is wrong; what must be said last.
func TestP3_3ReadFirstThatApplies(t *testing.T) {
	for _, x := range []struct {
		name string
		text string
		want api.Errno
	}{
		{"twice, and lacking", "0f00 0f0101 0f05 00", api.ErrTwice},
		{"lacking, and twice", "0f00 0f05 00", api.ErrEnd},
		{"the length lacks, and twice", "0f00 0f", api.ErrEnd},
		{"lacking, and too long", "0f15 00", api.ErrEnd},
		{"lacking, and of servers", "0001", api.ErrEnd},
		{"lacking, and not in the table", "2105 00", api.ErrEnd},
		{"formed wrongly, then lacking", "0a0115 0f05", api.ErrForm},
		{"formed wrongly, then twice", "0a0115 0f00 0f00", api.ErrForm},
		{"formed wrongly, then the same again", "0a0115 0a0115", api.ErrForm},
		{"of servers, then the same again", "0000 0000", api.ErrForm},
		{"twice, then formed wrongly", "0f00 0f00 0a0115", api.ErrTwice},
		{"not said, and lacking", "0a", api.ErrEnd},
		{"not said, and twice", "0a0103 0a0103", api.ErrTwice},
		{"not said", "0a0103", api.ErrForm},
		{"nothing", "", api.ErrForm},
	} {
		wantNoRead(t, x.name, hx(t, x.text), false, x.want)
	}
	wantNoRead(t, "twice, and formed wrongly", hx(t, "0c00 0c01 00 0f00"), false, api.ErrTwice)
}

func TestP3_3ReadMust(t *testing.T) {
	for _, text := range []string{"", "01011e", "0c00 0a0103", "2100"} {
		wantNoRead(t, "no First", hx(t, text), false, api.ErrForm)
		wantNoRead(t, "neither", hx(t, text), true, api.ErrForm)
		wantNoRead(t, "no First", hx(t, "0000"+text), true, api.ErrForm)
		wantNoRead(t, "no Original", hx(t, "0f00"+text), true, api.ErrForm)
		wantNoRead(t, "no Original, but Again", hx(t, "0f00 1000"+text), true, api.ErrForm)
	}
	wantNoRead(t, "nil", nil, false, api.ErrForm)
	wantNoRead(t, "nil", nil, true, api.ErrForm)
}
