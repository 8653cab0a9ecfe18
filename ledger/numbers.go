package ledger

import (
	"cmp"
	"slices"

	"caravel/api"
)

// numbers are packets' numbers, as rising spans of which no two touch.
type numbers []api.Span

// greatest tells the greatest of them; never: there is none.
func (n numbers) greatest() int {
	if len(n) == 0 {
		return never
	}
	return n[len(n)-1].Last
}

// add puts one in that is above all others.
func (n *numbers) add(number int) {
	if end := len(*n) - 1; end >= 0 && (*n)[end].Last+1 == number {
		(*n)[end].Last = number
		return
	}
	*n = append(*n, api.Span{First: number, Last: number})
}

// have tells whether all numbers of spans are in it.
func (n numbers) have(spans []api.Span) bool {
	for _, s := range spans {
		at, _ := slices.BinarySearchFunc(n, s.First, func(own api.Span, first int) int { return cmp.Compare(own.Last, first) })
		if at == len(n) || s.First < n[at].First || s.Last > n[at].Last {
			return false
		}
	}
	return true
}

// areAcks tells whether spans are as an acknowledgement may have them: from the greatest downwards, with a number between any two.
func areAcks(spans []api.Span) bool {
	if len(spans) < 1 || len(spans) > api.MaxSpans {
		return false
	}
	most := api.MaxVar
	for _, s := range spans {
		if s.First < 0 || s.First > s.Last || s.Last > most {
			return false
		}
		most = s.First - 2
	}
	return true
}
