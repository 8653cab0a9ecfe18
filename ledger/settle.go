package ledger

import (
	"slices"

	"caravel/api"
)

// behind is how many numbers below the greatest a packet is lost, however late it is.
const behind = 3

// arrive takes those that spans have, rising, off their way.
func (l *Ledger) arrive(spans []api.Span) (acked []Packet) {
	for _, span := range slices.Backward(spans) {
		from, _ := slices.BinarySearch(l.order, span.First)
		for _, number := range l.order[from:] {
			if number > span.Last {
				break
			}
			if p, ok := l.ways[number]; ok {
				l.take(p)
				acked = append(acked, p)
				l.greatest = max(l.greatest, number)
			}
		}
	}
	return acked
}

// sample tells how long the greatest number of an acknowledgement took.
func sample(acked []Packet, greatest, now int) int {
	end := len(acked) - 1
	if end < 0 || acked[end].Number != greatest || !slices.ContainsFunc(acked, elicits) {
		return noSample
	}
	return now - acked[end].At
}

func elicits(p Packet) bool { return p.Eliciting }

// pass takes what is lost at a time off its way.
func (l *Ledger) pass(now, late int) Result {
	l.now = now
	lost, spread := l.lose(now - late)
	l.trim()
	return Result{Lost: lost, Sample: noSample, Spread: spread}
}

// lose takes what is lost off its way; old: those that were sent at that time, or before, are. Neither numbers nor times go back, so all that are lost come ahead of all others, and one that stands between them and is not on its way any more has arrived.
func (l *Ledger) lose(old int) (lost []Packet, spread int) {
	from := never // when the first eliciting one was sent behind the last that arrived
seek:
	for _, number := range l.order {
		p, ok := l.ways[number]
		switch {
		case number >= l.greatest:
			break seek
		case !ok:
			from = never
			continue seek
		case number > l.greatest-behind && p.At > old:
			break seek
		}
		l.take(p)
		lost = append(lost, p)
		if !p.Eliciting {
			continue seek
		}
		if from == never {
			from = p.At
		}
		spread = max(spread, p.At-from)
	}
	return lost, spread
}

// take takes a packet off its way.
func (l *Ledger) take(p Packet) {
	delete(l.ways, p.Number)
	l.size -= p.Size
	if p.Eliciting {
		l.eliciting--
	}
}

// trim lets the order begin with one that is on its way.
func (l *Ledger) trim() {
	first := slices.IndexFunc(l.order, func(number int) bool {
		_, ok := l.ways[number]
		return ok
	})
	if first < 0 {
		first = len(l.order)
	}
	l.order = l.order[first:]
}
