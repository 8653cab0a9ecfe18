package seen

import "caravel/api"

// Acks tells what is acknowledged: from the greatest downwards, at most so many spans.
func (s *Seen) Acks(most int) []api.Span {
	if s.none() || most < 1 {
		return nil
	}
	var list []api.Span
	for span := range s.came.falling() {
		list = append(list, span)
		if len(list) == most {
			break
		}
	}
	return list
}

// Due tells when an acknowledgement is to be sent; false: none is.
func (s *Seen) Due() (at int, ok bool) {
	if s.none() || s.at == never {
		return 0, false
	}
	return s.at, true
}

// Greatest tells the greatest number; -1: none came.
func (s *Seen) Greatest() int {
	if s.none() {
		return 0
	}
	return s.greatest
}
