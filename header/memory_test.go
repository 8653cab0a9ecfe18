package header_test

import (
	"bytes"
	"slices"
	"testing"

	"caravel/api"
	"caravel/header"
)

// whole tells a slice's memory to the end of its spare room.
func whole(b []byte) []byte { return b[:cap(b)] }

// spoil writes over a slice, and over its spare room.
func spoil(b []byte) {
	for i := range whole(b) {
		whole(b)[i] ^= 0xff
	}
}

func TestMemoryPut(t *testing.T) {
	for _, x := range packets() {
		h := x.h
		h.Dst, h.Src, h.Token = roomy(h.Dst), roomy(h.Src), roomy(h.Token)
		h.List = append(slices.Clone(h.List), 5, 6, 7)[:len(h.List)]
		kept := [][]byte{slices.Clone(whole(h.Dst)), slices.Clone(whole(h.Src)), slices.Clone(whole(h.Token))}
		list := slices.Clone(h.List[:cap(h.List)])
		b, _, _ := header.Put(h, x.low, x.n)
		again, _, _ := header.Put(h, x.low, x.n)
		spoil(b)
		if !bytes.Equal(again, hx(t, x.text)) {
			t.Errorf("%s: answers share memory", x.name)
		}
		if !bytes.Equal(whole(h.Dst), kept[0]) || !bytes.Equal(whole(h.Src), kept[1]) || !bytes.Equal(whole(h.Token), kept[2]) {
			t.Errorf("%s: bytes that were handed in changed", x.name)
		}
		if !slices.Equal(h.List[:cap(h.List)], list) {
			t.Errorf("%s: the list that was handed in changed", x.name)
		}
	}
}

func TestMemoryRead(t *testing.T) {
	for _, x := range reads() {
		b := roomy(hx(t, x.text))
		kept := slices.Clone(whole(b))
		h, at, e := header.Read(b, x.ids)
		if e != api.OK || !bytes.Equal(whole(b), kept) {
			t.Errorf("%s: what was handed in changed", x.name)
		}
		spoil(b)
		if !same(h, x.h) || at != x.at {
			t.Errorf("%s: the answer shares what was handed in", x.name)
		}
		copy(whole(b), kept)
		for _, piece := range [][]byte{h.Dst, h.Src, h.Token} {
			other, _, _ := header.Read(b, x.ids)
			spoil(piece)
			if !bytes.Equal(whole(b), kept) || !same(other, x.h) {
				t.Errorf("%s: a piece of the answer shares memory", x.name)
			}
			spoil(piece)
			if !same(h, x.h) {
				t.Errorf("%s: pieces of the answer share memory", x.name)
			}
		}
	}
}

func TestMemoryWrongRead(t *testing.T) {
	for _, text := range []string{"", "00 01", "c0 00000001 15", "c0 00000001 00 00 4201 09", "80 00000000 00 00 010203"} {
		b := roomy(hx(t, text))
		kept := slices.Clone(whole(b))
		header.Read(b, 1)
		header.Split(b, 1)
		header.Number(b, 1)
		if !bytes.Equal(whole(b), kept) {
			t.Errorf("%s: what was handed in changed", text)
		}
	}
}

// TestMemorySplit: the packets are not the datagram's memory, and none reaches into the next.
func TestMemorySplit(t *testing.T) {
	bounded, open := pieces(t)
	for _, r := range open {
		want := append(slices.Clone(bounded), r)
		b := roomy(join(want...))
		kept := slices.Clone(whole(b))
		got := header.Split(b, 1)
		if !bytes.Equal(whole(b), kept) {
			t.Fatal("the datagram changed")
		}
		for i := range got {
			spoil(got[i])
			_ = append(got[i], "........"...)
			if !bytes.Equal(whole(b), kept) {
				t.Fatalf("packet %d shares the datagram's memory", i)
			}
			for j := range got {
				if j != i && !bytes.Equal(got[j], want[j]) {
					t.Fatalf("packets %d and %d share memory", i, j)
				}
			}
			spoil(got[i])
		}
		spoil(b)
		if !slices.EqualFunc(got, want, bytes.Equal) {
			t.Fatal("the packets are kept in the datagram")
		}
	}
}

// TestManyVersions: a list is put and read in steps that grow with it, not with its square.
func TestManyVersions(t *testing.T) {
	list := make([]int, 1<<18)
	for i := range list {
		list[i] = i + 1
	}
	b, at, e := header.Put(header.Header{Kind: header.Versions, List: list}, 0, 0)
	if len(b) != 7+4*len(list) || at != len(b) || e != api.OK {
		t.Fatal(len(b), at, int(e))
	}
	wantRead(t, "versions", b, 0, header.Header{Kind: header.Versions, List: list}, len(b))
}
