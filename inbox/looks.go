package inbox

// Ready tells how many bytes can be read.
func (b *Inbox) Ready() int {
	if b.none() {
		return 0
	}
	return b.ready - b.place
}

// Limit tells how far pieces may reach.
func (b *Inbox) Limit() int {
	if b.none() {
		return 0
	}
	return b.limit
}

// Reach tells how far pieces reached.
func (b *Inbox) Reach() int {
	if b.none() {
		return 0
	}
	return b.reach
}

// Final tells the stream's size, if it is known.
func (b *Inbox) Final() (int, bool) {
	if b.none() || !b.known {
		return 0, false
	}
	return b.reach, true
}

// Held tells how many bytes wait to be read.
func (b *Inbox) Held() int {
	if b.none() {
		return 0
	}
	return b.held
}
