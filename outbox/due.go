package outbox

// due tells what is to be sent now, by a closure: which bytes a piece has, if it may have so many, and whether there is one.
func (b *Outbox) due(limit int) func(most int) (from, to int, ok bool) {
	behind := min(limit, b.written()) // the new bytes that are allowed end here
	switch {
	case b.lost.any():
		return func(most int) (from, to int, ok bool) {
			from, to = b.lost.run(most)
			return from, to, from < to
		}
	case b.sent < behind:
		return func(most int) (from, to int, ok bool) {
			n := min(most, behind-b.sent)
			return b.sent, b.sent + n, n > 0
		}
	}
	return func(int) (from, to int, ok bool) { return b.sent, b.sent, b.ends(b.sent) }
}

// ends tells whether the end goes with a piece that ends there.
func (b *Outbox) ends(at int) bool {
	return at == b.written() && (b.end == endNew || b.end == endLost)
}

// copied tells the bytes from one offset up to another.
func (b *Outbox) copied(from, to int) []byte {
	return append([]byte(nil), b.data[from-b.base:to-b.base]...)
}

// forget drops the bytes ahead of the first one that has not arrived. They go only when they are more than the others, so that little is moved for each.
func (b *Outbox) forget() {
	gone := b.first() - b.base
	if gone > len(b.data)/2 {
		b.data = append([]byte(nil), b.data[gone:]...)
		b.base += gone
	}
}
