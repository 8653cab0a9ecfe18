package frame_test

import (
	"math"
	"slices"
	"testing"

	"caravel/api"
	"caravel/frame"
	"caravel/header"
)

// anyKinds are kinds of the table, and others beside them.
func anyKinds() []int {
	kinds := []int{math.MinInt, -api.MaxVar, -1, 1 << 14, 1 << 30, 1 << 32, 1<<32 + 1, 1<<32 + 8, api.MaxVar, api.MaxVar + 1, math.MaxInt}
	for kind := -300; kind < 300; kind++ {
		kinds = append(kinds, kind)
	}
	return kinds
}

func TestP4_4Eliciting(t *testing.T) {
	for _, kind := range anyKinds() {
		want := isStanding(kind) && !slices.Contains([]int{0x00, 0x02, 0x03, 0x1c, 0x1d}, kind)
		if got := frame.Eliciting(kind); got != want {
			t.Errorf("Eliciting(%x) = %v", kind, got)
		}
	}
}

// TestP4_4Allowed: each kind in each packet.
func TestP4_4Allowed(t *testing.T) {
	opening := []int{0x00, 0x01, 0x02, 0x03, 0x06, 0x1c}
	notEarly := []int{0x02, 0x03, 0x06, 0x07, 0x19, 0x1b, 0x1e}
	packets := []int{math.MinInt, -5, -2, -1, header.Initial, header.Early, header.Handshake, header.Retry, header.Versions, header.Short, header.Other, 7, 8, 255, 256, 1 << 32, math.MaxInt}
	for _, packet := range packets {
		for _, kind := range anyKinds() {
			want := false
			switch packet {
			case header.Initial, header.Handshake:
				want = slices.Contains(opening, kind)
			case header.Early:
				want = isStanding(kind) && !slices.Contains(notEarly, kind)
			case header.Short:
				want = isStanding(kind)
			}
			if got := frame.Allowed(kind, packet); got != want {
				t.Errorf("Allowed(%x, %d) = %v", kind, packet, got)
			}
		}
	}
}
