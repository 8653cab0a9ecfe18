package outbox_test

import (
	"math"
	"math/rand"
	"testing"

	"caravel/api"
	"caravel/outbox"
)

// step is a call.
type step func(p pair)

// fewSteps tells every call of a stream of few bytes from a place on, those that are refused too.
func fewSteps(place, few int) []step {
	list := []step{func(p pair) { p.finish() }, func(p pair) { p.next(-1, place+few) }}
	for from := range few + 1 {
		list = append(list, func(p pair) { p.write([]byte("uvwxyz")[:from]) })
		for to := from; to <= few; to++ {
			list = append(list, func(p pair) { p.next(to-from, place+to) })
			for _, fin := range []bool{false, true} {
				x := outbox.Piece{Offset: place + from, Data: make([]byte, to-from), Fin: fin}
				list = append(list, func(p pair) { p.acked(x) }, func(p pair) { p.lost(x) })
			}
		}
	}
	return list
}

// Every row of calls behind several others, three at the beginning and two across a block's border, against the model.
func TestP7_6Every(t *testing.T) {
	const few = 3
	for _, c := range []struct{ room, place, calls int }{{few, 0, 3}, {511, 1022, 2}} {
		list := fewSteps(c.place, few)
		for _, ahead := range []step{
			func(p pair) {},
			func(p pair) { p.write([]byte("abc")) },
			func(p pair) { p.write([]byte("abc")); p.next(9, c.place+9) },
			func(p pair) { p.write([]byte("ab")); p.next(9, c.place+9); p.finish() },
			func(p pair) { p.write([]byte("abc")); p.finish(); p.next(9, c.place+9) },
			func(p pair) {
				p.write([]byte("abc"))
				p.finish()
				p.next(9, c.place+9)
				p.lost(piece(c.place, "---", true))
			},
		} {
			rows(list, c.calls, func(row []step) {
				p := newPairAt(t, c.room, c.place)
				ahead(p)
				for _, s := range row {
					s(p)
				}
			})
		}
	}
}

// rows goes through all rows of so many steps.
func rows(list []step, n int, tell func(row []step)) {
	row := make([]step, n)
	var from func(i int)
	from = func(i int) {
		if i == n {
			tell(row)
			return
		}
		for _, row[i] = range list {
			from(i + 1)
		}
	}
	from(0)
}

// Calls of all kinds at random, against the model; at the end all arrives.
func TestP7_6Random(t *testing.T) {
	random := rand.New(rand.NewSource(7))
	for i := range 4000 {
		room := 1 + random.Intn(1<<random.Intn(9))
		p := newPairAt(t, room, []int{0, 0, 900, 1024 - random.Intn(20)}[i%4])
		for range 150 {
			some := outbox.Piece{Offset: p.m.floor + random.Intn(p.m.sent-p.m.floor+3) - 1}
			some.Data = make([]byte, random.Intn(1+random.Intn(max(1, p.m.sent-some.Offset+2))))
			some.Fin = random.Intn(10) == 0
			switch random.Intn(20) {
			case 0, 1, 2:
				data := make([]byte, random.Intn(room+2))
				random.Read(data)
				p.write(data)
			case 3:
				if random.Intn(20) == 0 {
					p.finish()
				}
			case 4, 5, 6, 7, 8, 9, 10:
				p.next(random.Intn(1+random.Intn(room+1))-random.Intn(2), p.m.sent+random.Intn(room+2)-random.Intn(3))
			case 11, 12, 13, 14:
				p.acked(some)
			default:
				p.lost(some)
			}
		}
		p.complete()
	}
}

// transfer is a stream on a way on which pieces are lost, and come in any order.
type transfer struct {
	t      *testing.T
	random *rand.Rand
	b      *outbox.Outbox
	text   []byte
	wrote  int
	came   []bool
	ended  bool
	out    []outbox.Piece // on their way
	late   []outbox.Piece // told lost, and yet they may arrive
}

// step writes something, sends something, and has something arrive or be lost.
func (x *transfer) step(room, most int, loss float64) {
	x.t.Helper()
	n, _ := x.b.Write(x.text[x.wrote:min(len(x.text), x.wrote+1+x.random.Intn(room))])
	x.wrote += n
	if x.wrote == len(x.text) {
		x.b.Finish() // again and again: it is told so
	}
	if _, sent, kept := x.b.Sizes(); kept > room || sent > x.wrote {
		x.t.Fatalf("%d kept, with room for %d; %d of %d sent", kept, room, sent, x.wrote)
	}
	if p, ok := x.b.Next(1+x.random.Intn(most), math.MaxInt); ok {
		x.check(p)
		x.out = append(x.out, p)
	}
	if len(x.out) > 0 && (x.random.Intn(2) == 0 || !x.b.Waits(math.MaxInt)) {
		x.tell(loss)
	}
	if len(x.late) > 0 && x.random.Intn(4) == 0 {
		x.arrives(x.late[0])
		x.late = x.late[1:]
	}
}

// check asks that a piece has the bytes that were written there, and that the end is told there alone.
func (x *transfer) check(p outbox.Piece) {
	x.t.Helper()
	end := p.Offset + len(p.Data)
	if p.Offset < 0 || end > x.wrote || string(p.Data) != string(x.text[p.Offset:end]) {
		x.t.Fatalf("a piece at %d of %d bytes has others, of %d that were written", p.Offset, len(p.Data), x.wrote)
	}
	if p.Fin && end != len(x.text) || !p.Fin && len(p.Data) == 0 {
		x.t.Fatalf("a piece at %d of %d bytes: Fin is %v", p.Offset, len(p.Data), p.Fin)
	}
}

// tell says of one piece on its way that it arrived, or that it was lost.
func (x *transfer) tell(loss float64) {
	x.t.Helper()
	i := x.random.Intn(len(x.out))
	p := x.out[i]
	x.out[i] = x.out[len(x.out)-1]
	x.out = x.out[:len(x.out)-1]
	if x.random.Float64() >= loss {
		x.arrives(p)
		return
	}
	loses(x.t, x.b, p)
	if x.random.Intn(5) == 0 {
		x.late = append(x.late, p)
	}
}

func (x *transfer) arrives(p outbox.Piece) {
	x.t.Helper()
	acks(x.t, x.b, p)
	for i := range p.Data {
		x.came[p.Offset+i] = true
	}
	x.ended = x.ended || p.Fin
}

// lacks tells whether something has not arrived.
func (x *transfer) lacks() bool {
	for _, c := range x.came {
		if !c {
			return true
		}
	}
	return !x.ended
}

// Texts through windows of all sizes, with much or little lost: each piece has its bytes, and in the end it is done, neither sooner nor later.
func TestP7_6Transfers(t *testing.T) {
	random := rand.New(rand.NewSource(76))
	for _, c := range []struct{ room, most, size int }{
		{1, 1, 0}, {1, 1, 1}, {1, 9, 50}, {3, 2, 400}, {64, 20, 2000}, {1000, 300, 9000}, {1023, 1200, 30000},
		{1024, 1024, 30000}, {1025, 1, 9000}, {70000, 1200, 400000}, {70000, 90000, 400000}, {most, 9000, 3 * most},
	} {
		for _, loss := range []float64{0, 0.1, 0.6} {
			text := make([]byte, c.size)
			random.Read(text)
			x := &transfer{t: t, random: random, b: begin(t, c.room), text: text, came: make([]bool, c.size)}
			for steps := 0; !x.b.Done(); steps++ {
				if steps > 100+50*c.size {
					t.Fatalf("%+v: it does not end", c)
				}
				x.step(c.room, c.most, loss)
			}
			if x.lacks() {
				t.Fatalf("%+v: done, and something lacks", c)
			}
			sizes(t, x.b, c.size, c.size, 0)
			tellsNone(t, x.b, math.MaxInt, math.MaxInt)
		}
	}
}

// It is done just as soon as the last piece arrives.
func TestP7_6DoneInAnyOrder(t *testing.T) {
	random := rand.New(rand.NewSource(77))
	text := letters(4000)
	for _, most := range []int{1, 3, 100, 1023, 1024, 1025, 4000} {
		b := begin(t, 4000)
		writes(t, b, string(text), 4000)
		finishes(t, b)
		var list []outbox.Piece
		for p, ok := b.Next(most, 4000); ok; p, ok = b.Next(most, 4000) {
			list = append(list, p)
		}
		for i, which := range random.Perm(len(list)) {
			if b.Done() {
				t.Fatalf("most %d: done behind %d of %d", most, i, len(list))
			}
			acks(t, b, list[which])
		}
		if !b.Done() {
			t.Fatalf("most %d: not done", most)
		}
	}
}

// As much as there may ever be, in the smallest pieces: every other byte is lost, and each of these comes by itself.
func TestP7_6FullLost(t *testing.T) {
	b, text := begin(t, most), string(letters(most))
	writes(t, b, text, most)
	finishes(t, b)
	tells(t, b, most, most, 0, text, true)
	for at := most - 1; at > 0; at -= 2 {
		loses(t, b, piece(at, text[at:at+1], false))
	}
	for at := 1; at < most/2; at += 2 {
		tells(t, b, 9, 0, at, text[at:at+1], false)
	}
	loses(t, b, piece(0, text, true)) // and then the others, too
	tells(t, b, most-1, 0, 0, text[:most-1], false)
	tells(t, b, most, 0, most-1, text[most-1:], true)
	tellsNone(t, b, most, most)
	acks(t, b, piece(0, text, true))
	sizes(t, b, most, most, 0)
	if !b.Done() {
		t.Error("not done")
	}
}

// Every other byte has arrived: those between them are lost in one piece, and each comes by itself.
func TestP7_6FullArrived(t *testing.T) {
	b, text := begin(t, most), string(letters(most))
	writes(t, b, text, most)
	finishes(t, b)
	for at := range most {
		tells(t, b, 1, most, at, text[at:at+1], at == most-1)
	}
	for at := 1; at < most; at += 2 {
		acks(t, b, piece(at, text[at:at+1], false))
	}
	sizes(t, b, most, most, most)
	loses(t, b, piece(0, text, true))
	for at := 0; at < most; at += 2 {
		tells(t, b, most, 0, at, text[at:at+1], false)
	}
	tells(t, b, most, 0, most, "", true)
	tellsNone(t, b, most, most)
	for at := most - 2; at >= 0; at -= 2 {
		loses(t, b, piece(at, text[at:at+1], false))
	}
	for at := most - 2; at > 0; at -= 2 {
		acks(t, b, piece(at, text[at:at+1], false))
	}
	sizes(t, b, most, most, most)
	writesNone := func() {
		t.Helper()
		if n, e := b.Write([]byte("a")); n != 0 || e != api.ErrState {
			t.Errorf("Write = %d, %d", n, int(e))
		}
	}
	writesNone()
	acks(t, b, piece(0, "-", false))
	sizes(t, b, most, most, 0)
	if b.Done() {
		t.Error("done, with the end on its way")
	}
	acks(t, b, piece(most, "", true))
	writesNone()
	if !b.Done() {
		t.Error("not done")
	}
}

// Byte by byte, each sent, lost, sent again and arrived at once.
func TestP7_6ByteByByte(t *testing.T) {
	b, text := begin(t, 1), string(letters(300000))
	for at := range len(text) {
		writes(t, b, text[at:], 1)
		loses(t, b, tells(t, b, 9, math.MaxInt, at, text[at:at+1], false))
		acks(t, b, tells(t, b, 9, 0, at, text[at:at+1], false))
	}
	finishes(t, b)
	acks(t, b, tells(t, b, 9, 0, len(text), "", true))
	if !b.Done() {
		t.Error("not done")
	}
}
