package inbox

import "math/bits"

// size is how many bytes a cell has: a bit of one word for each.
const size = 64

// cell is the stream's bytes from a multiple of size on. Pieces that wait are cut where cells end: so an offset alone tells where a byte waits, whichever piece it came with, and many small pieces take no more memory than a great one.
type cell struct {
	came  uint64 // which bytes did, the first one's bit the lowest
	bytes [size]byte
}

// lay puts a piece's bytes into their cells.
func (b *Inbox) lay(offset int, data []byte) {
	next := b.left(offset, data)
	for at, part := next(); len(part) > 0; at, part = next() {
		b.fill(at, part)
	}
	b.advance()
}

// left tells, call by call, what is left of a piece behind what was read already, in parts that lie in one cell each; at last none.
func (b *Inbox) left(offset int, data []byte) func() (at int, part []byte) {
	if read := b.place - offset; read > 0 {
		offset, data = b.place, data[min(read, len(data)):]
	}
	return func() (at int, part []byte) {
		at, part = offset, data[:min(len(data), size-offset%size)]
		offset, data = at+len(part), data[len(part):]
		return at, part
	}
}

// fill puts bytes into the one cell that they lie in, but for those that came before.
func (b *Inbox) fill(at int, part []byte) {
	from := at % size
	c := b.waits[at-from]
	for i, x := range part {
		if bit := uint64(1) << (from + i); c.came&bit == 0 {
			c.came |= bit
			c.bytes[from+i] = x
			b.held++
		}
	}
	b.waits[at-from] = c
}

// advance moves the end of what can be read as far as bytes came one behind the other.
func (b *Inbox) advance() {
	for {
		from := b.ready % size
		run := bits.TrailingZeros64(^(b.waits[b.ready-from].came >> from))
		b.ready += run
		if from+run < size {
			return
		}
	}
}

// take reads n bytes; so many can be read.
func (b *Inbox) take(n int) []byte {
	data := make([]byte, 0, n)
	for len(data) < n {
		from := b.place % size
		at, to := b.place-from, min(size, from+n-len(data))
		c := b.waits[at]
		data = append(data, c.bytes[from:to]...)
		b.place += to - from
		if c.came>>to == 0 { // nothing behind it waits in this cell
			delete(b.waits, at)
		}
	}
	b.held -= n
	return data
}
