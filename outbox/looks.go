package outbox

// Done tells whether all arrived.
func (b *Outbox) Done() bool {
	if b.none() {
		return false
	}
	all := b.written()
	return b.summary() == [4]int{all, all, 0, endArrived}
}

// Waits tells whether there is something to be sent, below a limit.
func (b *Outbox) Waits(limit int) bool {
	if b.none() {
		return false
	}
	_, _, ok := b.due(limit)(1)
	return ok
}

// Sizes tells how many bytes were written, how far was sent, how many are kept.
func (b *Outbox) Sizes() (written, sent, kept int) {
	if b.none() {
		return 0, 0, 0
	}
	s := b.summary()
	return s[0], s[1], s[2]
}

// summary tells how many bytes were written, how far was sent, how many are kept, and what the end is.
func (b *Outbox) summary() [4]int { return [4]int{b.written(), b.sent, b.kept(), b.end} }

// written tells how many bytes were written.
func (b *Outbox) written() int { return b.base + len(b.data) }

// kept tells how many bytes there are from the first one on that has not arrived.
func (b *Outbox) kept() int { return b.written() - b.first() }

// first tells where the first byte is that has not arrived.
func (b *Outbox) first() int {
	if b.away.any() {
		return b.away.least()
	}
	return b.sent
}
