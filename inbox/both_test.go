package inbox_test

import (
	"math/rand"
	"testing"

	"caravel/api"
)

// step is a call, whose bytes hang on which one it is in its row.
type step func(p pair, which int)

// fewSteps tells every call of a stream of few bytes from a place on, those that are refused too.
func fewSteps(place, few int) []step {
	var list []step
	for from := range few + 1 {
		for to := from; to <= few; to++ {
			for _, fin := range []bool{false, true} {
				list = append(list, func(p pair, which int) {
					data := make([]byte, to-from)
					for i := range data {
						data[i] = byte('a' + 8*which + i)
					}
					p.put(place+from, data, fin)
				})
			}
		}
		list = append(list,
			func(p pair, which int) { p.end(place + from) },
			func(p pair, which int) { p.grow(from) },
			func(p pair, which int) { p.read(from) })
	}
	return list
}

// Every row of three calls, at the beginning and across a multiple of 64, against the model.
func TestP6_5Every(t *testing.T) {
	const few = 4
	for _, begin := range []struct{ room, place int }{{few - 1, 0}, {few - 1, 62}} {
		list := fewSteps(begin.place, few)
		for _, first := range list {
			for _, second := range list {
				for _, third := range list {
					p := newPairAt(t, begin.room, begin.place)
					first(p, 0)
					second(p, 1)
					third(p, 2)
					p.read(few)
				}
			}
		}
	}
}

// Calls of all kinds at random, with other bytes in each piece, against the model.
func TestP6_5Random(t *testing.T) {
	random := rand.New(rand.NewSource(6))
	for range 300 {
		room := 1 + random.Intn(1<<random.Intn(9))
		p := newPair(t, room)
		for range 150 {
			switch at := p.m.place + random.Intn(2*room+1) - room/2; random.Intn(20) {
			case 0:
				p.end(at)
			case 1, 2:
				p.grow(random.Intn(2*room) - 1)
			case 3, 4, 5, 6, 7:
				p.read(random.Intn(room+2) - 1)
			default:
				data := make([]byte, random.Intn(1+random.Intn(room+1)))
				random.Read(data)
				p.put(at, data, random.Intn(30) == 0)
			}
		}
		p.read(most)
	}
}

// orders goes through all orders of a list.
func orders(list []api.Span, tell func([]api.Span)) {
	var from func(n int)
	from = func(n int) {
		if n == len(list) {
			tell(list)
			return
		}
		for i := n; i < len(list); i++ {
			list[n], list[i] = list[i], list[n]
			from(n + 1)
			list[n], list[i] = list[i], list[n]
		}
	}
	from(0)
}

// A text's pieces in all orders, read at the end or between them, in any portions: its bytes in order.
func TestP6_5Orders(t *testing.T) {
	text := letters(200)
	for _, pieces := range [][]api.Span{ // from First up to ahead of Last
		{{First: 0, Last: 50}, {First: 50, Last: 100}, {First: 100, Last: 150}, {First: 150, Last: 200}},
		{{First: 0, Last: 64}, {First: 64, Last: 128}, {First: 128, Last: 192}, {First: 192, Last: 200}},
		{{First: 0, Last: 90}, {First: 60, Last: 130}, {First: 120, Last: 200}, {First: 64, Last: 128}, {First: 128, Last: 129}},
		{{First: 0, Last: 200}, {First: 1, Last: 2}, {First: 63, Last: 65}, {First: 100, Last: 140}, {First: 199, Last: 200}},
		{{First: 0, Last: 1}, {First: 1, Last: 199}, {First: 199, Last: 200}, {First: 0, Last: 128}, {First: 64, Last: 200}},
		{{First: 10, Last: 20}, {First: 30, Last: 40}, {First: 5, Last: 35}, {First: 0, Last: 6}, {First: 39, Last: 200}},
	} {
		orders(pieces, func(list []api.Span) {
			for _, portion := range []int{0, 1, 40, 64, 200} {
				readsBetween(t, text, list, portion)
			}
		})
	}
}

// readsBetween puts a text's pieces, reads a portion behind each, and the rest at the end.
func readsBetween(t *testing.T, text []byte, pieces []api.Span, portion int) {
	t.Helper()
	b := begin(t, len(text))
	var got []byte
	for _, s := range pieces {
		put(t, b, s.First, string(text[s.First:s.Last]), s.Last == len(text))
		data, _ := b.Read(portion)
		got = append(got, data...)
		if string(got) != string(text[:len(got)]) {
			t.Fatalf("%v: read %q", pieces, got)
		}
	}
	reads(t, b, len(text), string(text[len(got):]), true)
}

// As much as there may ever be, in the smallest pieces, from behind: every other byte, and then all.
func TestP6_5Full(t *testing.T) {
	b, text, others := begin(t, most), letters(most), letters(most)
	for at := most - 1; at > 0; at -= 2 {
		put(t, b, at, string(text[at:at+1]), at == most-1)
		others[at] = '-'
	}
	want := view{limit: most, reach: most, final: most, known: true, held: most / 2}
	sees(t, b, want)
	reads(t, b, most, "", false)
	put(t, b, 0, string(others), true)
	want.ready, want.held = most, most
	sees(t, b, want)
	for _, e := range []api.Errno{b.Put(most, []byte("a"), false), b.Put(1, text, false), b.End(most + 1)} {
		if e != api.ErrFinal {
			t.Error(int(e))
		}
	}
	reads(t, b, most-1, string(text[:most-1]), false)
	reads(t, b, most, string(text[most-1:]), true)
	sees(t, b, view{limit: 2 * most, reach: most, final: most, known: true})
}

// Byte by byte in order, each read at once or all of them at the end.
func TestP6_5ByteByByte(t *testing.T) {
	text := letters(most)
	at, late := begin(t, 1), begin(t, most)
	for i := range most {
		put(t, at, i, string(text[i:i+1]), false)
		reads(t, at, 1, string(text[i:i+1]), false)
		put(t, late, i, string(text[i:i+1]), false)
		if late.Ready() != i+1 || late.Held() != i+1 {
			t.Fatalf("behind %d: %d ready, %d held", i, late.Ready(), late.Held())
		}
	}
	sees(t, at, view{limit: most + 1, reach: most})
	reads(t, late, most, string(text), false)
}

// A long text through a window that moves on, its pieces in a disorder as wide as the window.
func TestP6_5Window(t *testing.T) {
	random := rand.New(rand.NewSource(65))
	for _, room := range []int{1, 63, 64, 65, 1000, 70000, most} {
		text := make([]byte, 3*room+random.Intn(room))
		random.Read(text)
		b, read := begin(t, room), 0
		for done := false; !done; {
			end := min(len(text), b.Limit())
			for _, i := range random.Perm(20) {
				from := read + (end-read)*i/20
				to := min(end, read+(end-read)*(i+1)/20+random.Intn(room))
				put(t, b, from, string(text[from:to]), to == len(text))
			}
			var data []byte
			data, done = b.Read(1 + random.Intn(room))
			if len(data) == 0 || string(data) != string(text[read:read+len(data)]) {
				t.Fatalf("room %d: at %d others were read", room, read)
			}
			read += len(data)
			if done != (read == len(text)) || b.Held() > b.Limit()-read {
				t.Fatalf("room %d: at %d of %d done %v, %d held of %d", room, read, len(text), done, b.Held(), b.Limit())
			}
		}
	}
}
