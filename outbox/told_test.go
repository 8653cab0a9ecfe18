package outbox_test

import (
	"math"
	"testing"

	"caravel/api"
	"caravel/outbox"
)

// wrongPieces may not be told of a stream of the bytes abcdefgh of which five were sent, whatever is said of its end.
func wrongPieces() []outbox.Piece {
	list := []outbox.Piece{piece(5, "f", false), piece(4, "ef", false), piece(0, "abcdef", false), piece(0, "abcdefgh", false), piece(0, "abcdefghi", false)}
	for _, at := range []int{math.MinInt, math.MinInt + 1, -api.MaxVar, -2, -1, 6, 7, 8, 9, api.MaxVar, math.MaxInt - 1, math.MaxInt} {
		list = append(list, piece(at, "", false), piece(at, "a", false), piece(at, "abcdefgh", false))
	}
	return list
}

func TestP7_4WrongPieces(t *testing.T) {
	for _, ended := range []bool{false, true} {
		p := newPair(t, 9)
		p.write([]byte("abcdefgh"))
		p.next(2, 9)
		p.next(3, 9)
		if ended {
			p.finish()
		}
		p.lost(piece(1, "b", false))
		p.acked(piece(3, "d", false))
		for _, w := range wrongPieces() {
			for _, w.Fin = range []bool{false, true} {
				if e := p.acked(w); e != api.ErrArg {
					t.Errorf("Acked(%v) = %d", show(w), int(e))
				}
				if e := p.lost(w); e != api.ErrArg {
					t.Errorf("Lost(%v) = %d", show(w), int(e))
				}
			}
		}
		x, _ := p.next(9, 5)
		if !same(x, piece(1, "b", false)) {
			t.Errorf("Next = %v", show(x))
		}
		p.drain(2)
	}
}

// Pieces with Fin may be told only of the end, and only if that was sent once.
func TestP7_4WrongFin(t *testing.T) {
	all := []outbox.Piece{piece(0, "", true), piece(0, "a", true), piece(1, "b", true), piece(0, "ab", true), piece(0, "abc", true), piece(1, "bc", true), piece(2, "c", true), piece(3, "", true)}
	refused := func(p pair, name string, list []outbox.Piece) {
		t.Helper()
		for _, x := range list {
			if e := p.acked(x); e != api.ErrArg {
				t.Errorf("%s: Acked(%v) = %d", name, show(x), int(e))
			}
			if e := p.lost(x); e != api.ErrArg {
				t.Errorf("%s: Lost(%v) = %d", name, show(x), int(e))
			}
		}
	}
	p := newPair(t, 9)
	refused(p, "of nothing", all)
	p.write([]byte("abc"))
	refused(p, "unsent", all)
	p.next(2, 9)
	refused(p, "a part sent", all)
	p.next(9, 9)
	refused(p, "all sent", all)
	p.finish()
	refused(p, "finished", all)
	p.lost(piece(1, "bc", false))
	refused(p, "lost", all)
	p.acked(piece(0, "abc", false))
	refused(p, "arrived", all)
	x, _ := p.next(0, 0)
	if !same(x, piece(3, "", true)) {
		t.Fatalf("Next = %v", show(x))
	}
	wrong := append(all[:4:4], piece(3, "d", true), piece(2, "cd", true), piece(4, "", true), piece(-1, "abcd", true), piece(math.MaxInt, "abc", true), piece(math.MinInt, "", true))
	refused(p, "the end sent", wrong)
	p.lost(x)
	refused(p, "the end lost", wrong)
	p.acked(x)
	refused(p, "the end arrived", wrong)
	if !p.b.Done() {
		t.Error("not done")
	}
}

// Every piece that may be told of the end is, with any bytes ahead of it.
func TestP7_4Fin(t *testing.T) {
	text := "abcd"
	for from := range len(text) + 1 {
		p := newPair(t, 9)
		p.write([]byte(text))
		p.finish()
		p.drain(9)
		x := piece(from, text[from:], true)
		if e := p.lost(x); e != api.OK {
			t.Fatalf("Lost(%v) = %d", show(x), int(e))
		}
		got, ok := p.next(9, 9)
		if !ok || !same(got, x) {
			t.Fatalf("Next = %v, not %v", show(got), show(x))
		}
		p.lost(x)
		if e := p.acked(x); e != api.OK { // though it is lost
			t.Fatalf("Acked(%v) = %d", show(x), int(e))
		}
		p.lost(x) // what has arrived stays so
		if got, ok := p.next(9, 9); ok {
			t.Fatalf("Next = %v behind its arrival", show(got))
		}
		if p.b.Done() != (from == 0) {
			t.Fatalf("from %d: Done() = %v", from, p.b.Done())
		}
		p.acked(piece(0, text, false))
		if !p.b.Done() {
			t.Fatalf("from %d: not done", from)
		}
	}
}

// A piece at the end without Fin says nothing of the end.
func TestP7_4EndUntold(t *testing.T) {
	p := newPair(t, 9)
	p.write([]byte("abc"))
	p.finish()
	p.drain(9)
	p.lost(piece(0, "abc", false))
	x, _ := p.next(9, 9)
	if !same(x, piece(0, "abc", false)) { // the end is on its way still
		t.Fatalf("Next = %v", show(x))
	}
	p.acked(x)
	if p.b.Done() {
		t.Error("done, with the end on its way")
	}
	p.lost(piece(3, "", true))
	x, _ = p.next(9, 9)
	if !same(x, piece(3, "", true)) {
		t.Fatalf("Next = %v", show(x))
	}
	p.acked(piece(3, "", false))
	if p.b.Done() {
		t.Error("done by a piece without Fin")
	}
	p.acked(piece(3, "", true))
	if !p.b.Done() {
		t.Error("not done")
	}
}

// The end is told lost only if it is on its way.
func TestP7_4EndLost(t *testing.T) {
	b := begin(t, 9)
	finishes(t, b)
	end := tells(t, b, 0, 0, 0, "", true)
	for range 3 {
		loses(t, b, end)
		loses(t, b, end)
		tells(t, b, 0, 0, 0, "", true)
		tellsNone(t, b, 0, 0)
	}
	acks(t, b, end)
	loses(t, b, end)
	tellsNone(t, b, 9, 9)
	if !b.Done() {
		t.Error("not done")
	}
}

// The bytes abcdefgh are in turn arrived, lost, on their way, lost, on their way, arrived, new, new: each piece of those that were sent, told lost or arrived.
func TestP7_4Mixed(t *testing.T) {
	for _, place := range []int{0, 1018, 1020, 1021, 1022, 1023, 1024, 2045} {
		for from := range 7 {
			for to := from; to <= 6; to++ {
				for _, told := range []func(p pair, x outbox.Piece) api.Errno{pair.acked, pair.lost} {
					p := newPairAt(t, 9, place)
					p.write([]byte("abcdefgh"))
					p.next(6, place+99)
					p.lost(piece(place+1, "b", false))
					p.lost(piece(place+3, "d", false))
					p.acked(piece(place+0, "a", false))
					p.acked(piece(place+5, "f", false))
					if e := told(p, outbox.Piece{Offset: place + from, Data: make([]byte, to-from)}); e != api.OK {
						t.Fatal(int(e))
					}
					p.drain(2)
					p.complete()
				}
			}
		}
	}
}

func TestP7_4Acked(t *testing.T) {
	b := sending(t, 8)
	sizes(t, b, 8, 8, 8)
	acks(t, b, piece(2, "cd", false))
	sizes(t, b, 8, 8, 8)
	acks(t, b, piece(1, "", false))
	sizes(t, b, 8, 8, 8)
	acks(t, b, piece(0, "a", false))
	sizes(t, b, 8, 8, 7)
	acks(t, b, piece(0, "ab", false)) // one of them arrived before
	sizes(t, b, 8, 8, 4)
	acks(t, b, piece(0, "abcd", false)) // all of them did
	acks(t, b, piece(0, "", false))
	acks(t, b, piece(8, "", false))
	sizes(t, b, 8, 8, 4)
	loses(t, b, piece(0, "abcdef", false))
	sizes(t, b, 8, 8, 4)
	acks(t, b, piece(3, "de", false)) // though e is lost
	sizes(t, b, 8, 8, 3)
	tells(t, b, 9, 0, 5, "f", false)
	tellsNone(t, b, 9, 9)
	acks(t, b, piece(5, "fgh", false))
	sizes(t, b, 8, 8, 0)
}

func TestP7_4Lost(t *testing.T) {
	b := sending(t, 6)
	acks(t, b, piece(2, "c", false))
	loses(t, b, piece(0, "abcdef", false)) // c has arrived
	sizes(t, b, 8, 6, 8)
	tells(t, b, 9, 0, 0, "ab", false)
	loses(t, b, piece(1, "bcd", false)) // d is lost already
	tells(t, b, 9, 0, 1, "b", false)
	tells(t, b, 1, 0, 3, "d", false)
	loses(t, b, piece(6, "", false))
	loses(t, b, piece(0, "", false))
	tells(t, b, 9, 0, 4, "ef", false)
	tellsNone(t, b, 9, 6)
	tells(t, b, 9, 9, 6, "gh", false)
}

// Of a piece's bytes only their number counts; it is neither changed nor kept.
func TestP7_4BytesNotLookedAt(t *testing.T) {
	p := newPair(t, 9)
	p.write([]byte("abcdef"))
	p.drain(9)
	memory := []byte("--------")
	p.lost(outbox.Piece{Offset: 1, Data: memory[:4]})
	p.acked(outbox.Piece{Offset: 2, Data: memory[:1]})
	if string(memory) != "--------" {
		t.Errorf("%q", memory)
	}
	clear(memory)
	for _, want := range []outbox.Piece{piece(1, "b", false), piece(3, "de", false)} {
		if x, _ := p.next(9, 0); !same(x, want) {
			t.Errorf("Next = %v, not %v", show(x), show(want))
		}
	}
	p.complete()
}

// Pieces may be told in other cuts than they were sent, and again and again.
func TestP7_4OtherCuts(t *testing.T) {
	const n = 3000
	text := letters(n)
	for _, cut := range []int{1, 7, 1023, 1024, 1025, n} {
		b := begin(t, n)
		writes(t, b, string(text), n)
		finishes(t, b)
		for at := 0; at < n; at += 1200 {
			to := min(n, at+1200)
			tells(t, b, 1200, n, at, string(text[at:to]), to == n)
		}
		for at := n; at > 0; at -= cut {
			p := outbox.Piece{Offset: max(0, at-cut), Data: text[max(0, at-cut):at], Fin: at == n}
			loses(t, b, p)
			loses(t, b, p)
		}
		tells(t, b, n, 0, 0, string(text), true)
		for at := n; at > 0; at -= cut {
			if b.Done() {
				t.Fatal("done")
			}
			sizes(t, b, n, n, n)
			p := outbox.Piece{Offset: max(0, at-cut), Data: text[max(0, at-cut):at], Fin: at == n}
			acks(t, b, p)
			loses(t, b, p)
			acks(t, b, p)
		}
		sizes(t, b, n, n, 0)
		if !b.Done() {
			t.Fatal("not done")
		}
	}
}
