package inbox

import (
	"math/rand"
	"testing"

	"caravel/api"
)

// keepsLittle asks that no cell is kept but those in which bytes wait.
func keepsLittle(t *testing.T, b *Inbox) {
	t.Helper()
	waiting := 0
	for at, c := range b.waits {
		if at%size != 0 || at+size <= b.place || at >= b.limit {
			t.Fatalf("a cell at %d, with the place at %d and the limit at %d", at, b.place, b.limit)
		}
		unread := 0
		for i := range size {
			if at+i >= b.place && c.came>>i&1 == 1 {
				unread++
			}
		}
		if unread == 0 {
			t.Fatalf("a cell at %d in which nothing waits, with the place at %d", at, b.place)
		}
		waiting += unread
	}
	if waiting != b.held {
		t.Fatalf("%d bytes wait, %d are held", waiting, b.held)
	}
}

// What was read is not kept, whatever is left of the cell that it stood in, nor anything of a piece without new bytes.
func TestP6_5NothingReadIsKept(t *testing.T) {
	random := rand.New(rand.NewSource(66))
	for range 200 {
		room := 1 + random.Intn(400)
		b, _ := New(room)
		for range 100 {
			at := max(0, b.place+random.Intn(2*room)-room/2)
			data := make([]byte, random.Intn(1+random.Intn(room)))
			if e := b.Put(at, data, false); e != api.OK && e != api.ErrFlow {
				t.Fatal(int(e))
			}
			keepsLittle(t, b)
			b.Read(random.Intn(room))
			keepsLittle(t, b)
		}
	}
}
