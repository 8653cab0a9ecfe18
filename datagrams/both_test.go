package datagrams_test

import (
	"math/rand"
	"strings"
	"testing"

	"caravel/api"
)

// Each row of few calls of a small queue.
func TestP22_4Every(t *testing.T) {
	steps := []func(*pair){
		func(p *pair) { p.put(0) },
		func(p *pair) { p.put(1) },
		func(p *pair) { p.put(2) },
		func(p *pair) { p.put(3) },
		func(p *pair) { p.push(0) },
		func(p *pair) { p.push(2) },
		func(p *pair) { p.push(3) },
		func(p *pair) { p.next(-1) },
		func(p *pair) { p.next(0) },
		func(p *pair) { p.next(1) },
		func(p *pair) { p.next(2) },
	}
	const calls = 5
	all := 1
	for range calls {
		all *= len(steps)
	}
	for room := range 3 {
		for row := range all {
			p := newPair(t, 2, room)
			for range calls {
				steps[row%len(steps)](p)
				row /= len(steps)
			}
			p.ends()
		}
	}
}

// reached counts which edges calls by chance came to: without that they would ask for little.
type reached map[string]int

func (r reached) all(t *testing.T, edges ...string) {
	t.Helper()
	for _, edge := range edges {
		if r[edge] < 50 {
			t.Errorf("%q was come to %d times", edge, r[edge])
		}
	}
}

// place tells how many wait of those there is room for.
func (p *pair) place() string {
	switch {
	case p.m.room == 0:
		return "no room"
	case len(p.m.waits) == p.m.room:
		return "full"
	case len(p.m.waits) == p.m.room-1:
		return "one less"
	}
	return "less"
}

// part tells where a number of bytes is of another one.
func part(n, of int) string {
	switch {
	case n < 0:
		return "none"
	case n == of:
		return "just"
	case n == of-1:
		return "one less"
	case n == of+1:
		return "one more"
	case n < of:
		return "less"
	}
	return "more"
}

// near tells a number by chance: mostly one that has to do with another one.
func near(random *rand.Rand, of int) int {
	switch random.Intn(8) {
	case 0:
		return 0
	case 1, 2, 3:
		return of - 1 + random.Intn(3)
	case 4:
		return of + random.Intn(50)
	}
	return random.Intn(of + 1)
}

// Many calls by chance, each held against a plain list.
func TestP22_4Random(t *testing.T) {
	random := rand.New(rand.NewSource(2201))
	r := reached{}
	for range 3000 {
		p := newPair(t, random.Intn(1<<random.Intn(8)), random.Intn(1<<random.Intn(7)+1))
		often := 1 + random.Intn(4) // how seldom Next is called
		for range 80 {
			size, place := max(near(random, p.m.most), 0), p.place()
			switch random.Intn(4 + 2*often) {
			case 0, 1:
				p.put(size)
				r["Put, "+place+", "+part(size, p.m.most)]++
			case 2:
				goes, e := p.push(size)
				r["Push, "+place+", "+part(size, p.m.most)]++
				if goes != (place == "full" && e == api.OK) {
					p.fails("goes")
				}
			case 3:
				r.next(p, odd()[random.Intn(len(odd()))])
			default:
				r.next(p, near(random, p.m.first()))
			}
		}
		p.ends()
	}
	for _, place := range []string{"no room, ", "full, ", "one less, ", "less, "} {
		for _, call := range []string{"Put, ", "Push, "} {
			r.all(t, call+place+"just", call+place+"less", call+place+"one less", call+place+"one more", call+place+"more")
		}
	}
	for _, size := range []string{"empty, ", "some, "} {
		r.all(t, "Next, "+size+"none", "Next, "+size+"just", "Next, "+size+"one more", "Next, "+size+"more")
	}
	r.all(t, "Next, some, less", "Next, some, one less", "Next, nothing waits")
}

// next counts a Next by what waits.
func (r reached) next(p *pair, most int) {
	p.t.Helper()
	waits, first := len(p.m.waits), p.m.first()
	switch {
	case waits == 0:
		r["Next, nothing waits"]++
	case first == 0:
		r["Next, empty, "+part(most, first)]++
	default:
		r["Next, some, "+part(most, first)]++
	}
	p.next(most)
}

// As many and as large ones as there may be.
func TestP22_4Large(t *testing.T) {
	p := newPair(t, large, api.MaxQueue)
	for i := range api.MaxQueue {
		p.put(large - i)
	}
	for i := range api.MaxQueue + 3 {
		p.put(large)
		p.push(large - 7*i)
		p.push(large + 1)
	}
	for range 5 {
		p.next(large)
		p.push(0)
	}
	p.ends()
}

// A long time: what was taken out is not told again, and nothing that waits is passed over.
func TestP22_4Long(t *testing.T) {
	p := newPair(t, 3, 5)
	for i := range 100000 {
		p.made, p.gave = nil, nil
		p.push(i % 4)
		if i%3 == 0 {
			p.next(3)
		}
		if i%7 == 0 {
			p.put(i % 5)
		}
	}
	p.ends()
}

// What is put in twice comes out twice, each in memory of its own.
func TestP22_4Same(t *testing.T) {
	q := queue(t, 5, 4)
	b := []byte("abc")
	for range 2 {
		if q.Put(b) != api.OK {
			t.Fatal("Put")
		}
		if _, is, e := q.Push(b); is || e != api.OK {
			t.Fatal("Push")
		}
	}
	copy(b, "---")
	for range 2 {
		gone, is, e := q.Push([]byte("de"))
		if string(gone) != "abc" || !is || e != api.OK {
			t.Fatalf("Push = %q, %v, %d", gone, is, int(e))
		}
		copy(gone, "***")
		told, ok := q.Next(3)
		if string(told) != "abc" || !ok || string(gone) != "***" {
			t.Fatalf("Next = %q, %v; %q", told, ok, gone)
		}
		copy(told, "+++")
		puts(t, q, "fg")
	}
	if string(b) != "---" {
		t.Errorf("what was handed in is %q", b)
	}
	holds(t, q, "de", "fg", "de", "fg")
}

// What was told may be put in again, and be changed then.
func TestP22_4Again(t *testing.T) {
	q := queue(t, 5, 2, "abc", "def")
	gone, is, e := q.Push([]byte("ghi"))
	if string(gone) != "abc" || !is || e != api.OK {
		t.Fatalf("Push = %q, %v, %d", gone, is, int(e))
	}
	other, is, e := q.Push(gone)
	if string(other) != "def" || !is || e != api.OK || string(gone) != "abc" {
		t.Fatalf("Push = %q, %v, %d; %q", other, is, int(e), gone)
	}
	copy(gone, "***")
	next(t, q, 5, "ghi")
	if e := q.Put(other[1:2]); e != api.OK {
		t.Fatalf("Put = %d", int(e))
	}
	copy(other, "***")
	holds(t, q, "abc", "e")
}

// An append to what was told, even to nothing, changes neither what waits nor what was told besides.
func TestP22_4Append(t *testing.T) {
	for _, size := range []int{0, 1, 2, 3, 5, 7, 9, 17, 31, 33, 100, 1000, 1200} {
		b := bytesOf(size)
		q := queue(t, large, 3, b, b, b)
		first, _, _ := q.Push([]byte("x"))
		second, _ := q.Next(size)
		if string(first) != b || string(second) != b {
			t.Fatalf("%q and %q, not %q", first, second, b)
		}
		long := strings.Repeat("*", 2000)
		one, two := append(first, long...), append(second, "+"+long...)
		if string(first) != b || string(second) != b || string(one) != b+long || string(two) != b+"+"+long {
			t.Errorf("with %d bytes an append changes what was told", size)
		}
		holds(t, q, b, "x")
	}
}

// What is told has no spare room.
func TestP22_4NoSpare(t *testing.T) {
	for size := range 100 {
		q := queue(t, large, 2, bytesOf(size), bytesOf(size))
		first, _, _ := q.Push(nil)
		second, _ := q.Next(size)
		if len(first) != size || cap(first) != size || len(second) != size || cap(second) != size {
			t.Errorf("of %d bytes: %d of %d, %d of %d", size, len(first), cap(first), len(second), cap(second))
		}
	}
}
