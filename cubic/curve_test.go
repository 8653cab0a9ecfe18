package cubic_test

import (
	"math/rand"
	"testing"

	"caravel/cubic"
)

// fallen tells a cubic of 700000 bytes that fell from 1000000, and recovers since 10000; no curve has begun.
func fallen(t *testing.T, size int) *cubic.Window {
	t.Helper()
	w := grown(t, cubic.Cubic, size, 1000000)
	lose(t, w, 5, 10000)
	told(t, w, 700000, 700000, 10000)
	return w
}

// curved tells such a cubic whose curve began at 20000, by a packet without bytes.
func curved(t *testing.T, size int) *cubic.Window {
	t.Helper()
	w := fallen(t, size)
	arrive(t, w, 0, 20000, 20000, 0)
	told(t, w, 700000, 700000, 10000)
	return w
}

// Where a whole window arrives, it becomes just target, or est: a table over how long the curve has gone on.
func TestP16_2Curve(t *testing.T) {
	for _, c := range []struct{ size, millis, window int }{
		// k is 8549: ahead of it, at it, behind it
		{1200, 0, 700635}, {1200, 1, 700635}, // 700093 and 700198: below est
		{1200, 500, 749697}, {1200, 1000, 793506}, {1200, 4000, 954816}, {1200, 7000, 998216},
		{1200, 7548, 999519}, {1200, 7549, 999520}, {1200, 7550, 999522}, {1200, 8000, 999921},
		{1200, 8448, 1000000}, {1200, 8548, 1000000}, {1200, 8549, 1000000}, {1200, 8550, 1000000},
		{1200, 9049, 1000060}, {1200, 9549, 1000480}, {1200, 9550, 1000481}, {1200, 13254, 1049994},
		{1200, 13549, 1050000}, {1200, 14000, 1050000}, {1200, 1000000, 1050000}, {1200, 1000001, 1050000}, // three halves
		// k is 2253: what is left over the division counts more
		{65535, 0, 734695}, {65535, 1, 734695}, {65535, 500, 858786}, {65535, 1000, 948432},
		{65535, 1252, 973708}, {65535, 1253, 973786}, {65535, 1254, 973865}, {65535, 2152, 999973}, {65535, 2153, 999974},
		{65535, 2243, 1000000}, {65535, 2253, 1000000}, {65535, 2263, 1000000}, {65535, 2753, 1003276},
		{65535, 3253, 1026214}, {65535, 3254, 1026292}, {65535, 4000, 1050000}, {65535, 999999, 1050000},
		// two divisions, each towards 0: one of the whole would come to another number, below 0 those downwards, too
		{1471, 7988 - 2972, 984555}, {1471, 7988 - 2125, 994355}, {1471, 7988 - 1264, 998813},
		{1471, 7988 + 1142, 1000875}, {1471, 7988 + 2059, 1005135}, {1471, 7988 + 2997, 1015838},
		{1201, 8547 - 2608, 991480}, {1201, 8547 - 1334, 998861}, {1201, 8547 + 1023, 1000513}, {1201, 8547 + 2633, 1008768},
		{65534, 2253 - 2146, 740932}, {65534, 2253 - 1481, 914850}, {65534, 2253 + 1177, 1042741},
	} {
		w := curved(t, c.size)
		arrive(t, w, 700000, 20000, 20000+1000*c.millis, 0)
		told(t, w, c.window, 700000, 10000)
		w = curved(t, c.size)
		arrive(t, w, 700000, 10001, 20000, 1000*c.millis) // a round is looked ahead
		told(t, w, c.window, 700000, 10000)
	}
}

// Microseconds are rounded down to milliseconds, those of now and rtt together.
func TestP16_2CurveMicros(t *testing.T) {
	for _, c := range []struct{ now, rtt, window int }{
		{1019999, 0, 948308}, {1020000, 0, 948432}, {1020999, 0, 948432}, {1021000, 0, 948555},
		{20000, 1000000, 948432}, {520000, 500000, 948432}, {520999, 500000, 948432}, {520999, 500001, 948555}, {520500, 500499, 948432},
		{19000, 1001000, 948432}, {19000, 1000999, 948308}, {10001, 1009999, 948432},
	} {
		w := curved(t, 65535)
		arrive(t, w, 700000, 10001, c.now, c.rtt)
		told(t, w, c.window, 700000, 10000)
	}
}

// A time ahead of the curve's: milliseconds below 0 are rounded towards 0.
func TestP16_2CurveBefore(t *testing.T) {
	for _, c := range []struct{ now, rtt, more int }{
		{20000, 0, 20}, {19999, 0, 20}, {19001, 0, 20}, {19000, 0, 2}, {18001, 0, 2}, {12000, 0, 2},
		{10001, 9999, 20}, {10001, 9000, 20}, {10001, 8999, 2},
	} {
		w := grown(t, cubic.Cubic, 2915, most)
		lose(t, w, 5, 10000)
		arrive(t, w, 0, 20000, 20000, 0)
		told(t, w, 751619276, 751619276, 10000)
		arrive(t, w, 1<<20, 10001, c.now, c.rtt)
		told(t, w, 751619276+c.more, 751619276, 10000)
	}
}

// Less than a window: it comes as far towards target as the part is.
func TestP16_2CurvePart(t *testing.T) {
	for _, c := range []struct{ bytes, window int }{
		{0, 700000}, {1, 700000}, {2, 700000}, {3, 700001}, {350000, 825509}, {699999, 951018}, {700000, 951019}, {700001, 951019}, {1 << 20, 1076017},
	} {
		w := curved(t, 1200)
		arrive(t, w, c.bytes, 20001, 20000+3876000, 0) // target: 951019
		told(t, w, c.window, 700000, 10000)
	}
}

// The first that arrives begins the curve, with its own time; the later ones go on along it.
func TestP16_2CurveBegins(t *testing.T) {
	for _, c := range []struct{ now, rtt, window int }{
		{20000, 0, 700635}, {20000, 1000000, 793506}, {20000, 8549000, 1000000}, {20000, 8549999, 1000000}, {20000, 9549000, 1000480},
		{20000, end, 1050000}, {end, 0, 700635}, {end, 1000000, 793506}, {end, end, 1050000}, {10001, 1000999, 793506},
	} {
		w := fallen(t, 1200)
		arrive(t, w, 700000, 10001, c.now, c.rtt)
		told(t, w, c.window, 700000, 10000)
	}
	w := fallen(t, 1200)
	for _, c := range []struct{ bytes, now, window int }{
		{12000, 20000, 700091}, {12000, 70000, 700269}, {24000, 1070000, 703741}, {100000, 2070000, 727544}, {100000, 4070000, 759182},
		{500000, 8520000, 917785}, {500000, 8570000, 962574}, {500000, 12570000, 998589}, {500000, 20570000, 1248588},
	} {
		arrive(t, w, c.bytes, c.now-1, c.now, 50000)
		told(t, w, c.window, 700000, 10000)
	}
}

// Neither what was sent before, nor what did not use the window, begins a curve.
func TestP16_2CurveDoesNotBegin(t *testing.T) {
	w := fallen(t, 1200)
	if e := w.Acked(0, 20000, 20000, 0, false); e != 0 {
		t.Fatal(int(e))
	}
	arrive(t, w, 0, 10000, 20000, 0)
	arrive(t, w, 700000, 1020000, 1020000, 0) // it begins here
	told(t, w, 700635, 700000, 10000)
}

// The least target is the window: it does not go down, though the curve is far below it.
func TestP16_2CurveLowest(t *testing.T) {
	w := curved(t, 1200)
	arrive(t, w, 700000, 20001, 20000+8549000, 0)
	told(t, w, 1000000, 700000, 10000)
	for _, now := range []int{20000, 10001, 1020000, 8000000} {
		arrive(t, w, 1000000, 10001, now, 0)
		told(t, w, 1000000, 700000, 10000)
	}
}

// The greatest target is three halves of the window, rounded down.
func TestP16_2CurveHighest(t *testing.T) {
	for _, c := range []struct{ top, low, high int }{
		{1000000, 700000, 1050000}, {1000002, 700001, 1050001}, {1000003, 700002, 1050003}, {1000010, 700007, 1050010},
	} {
		w := grown(t, cubic.Cubic, 1200, c.top)
		lose(t, w, 5, 10000)
		arrive(t, w, 0, 20000, 20000, 0)
		told(t, w, c.low, c.low, 10000)
		arrive(t, w, c.low, 20001, 2000020000, 0)
		told(t, w, c.high, c.low, 10000)
	}
}

// Times as far apart as may be: milliseconds are limited, so that no cube leaves its range.
func TestP16_2CurveFar(t *testing.T) {
	random := rand.New(rand.NewSource(16))
	for range 3000 {
		from, to := random.Intn(end/4), end-random.Intn(end/4)
		w := grown(t, cubic.Cubic, 1200+random.Intn(64336), 1000000)
		lose(t, w, 5, 0)
		arrive(t, w, 0, 1, from+1, 0)
		arrive(t, w, 700000, 1, to, random.Intn(end+1))
		told(t, w, 1050000, 700000, 0)

		w = grown(t, cubic.Cubic, 1200+random.Intn(64336), 1000000)
		lose(t, w, 5, 0)
		arrive(t, w, 1000, 1, to, 60000000) // est stays below the window by that
		is, _, _ := w.Told()
		arrive(t, w, 1000, 1, from+1, random.Intn(end/4))
		told(t, w, is, 700000, 0)
	}
}

// What a Reno would have is the least: it grows by 9 / 17 of a packet for a window that arrived.
func TestP16_2CurveEst(t *testing.T) {
	w := fallen(t, 1200)
	for _, c := range []struct{ bytes, window int }{
		{700000, 700635}, {700000, 701269}, {1200, 701270}, {0, 701270}, {1, 701270}, {1 << 20, 702219}, {50, 702219},
	} {
		arrive(t, w, c.bytes, 20000, 20000, 0) // no time passes: the curve stays at its beginning
		told(t, w, c.window, 700000, 10000)
	}
	w = fallen(t, 1200) // it is kept apart from the window: it begins with the curve, and grows by itself
	arrive(t, w, 700000, 20000, 20000, 500000)
	told(t, w, 749697, 700000, 10000) // est is 700635
	for range 77 {
		arrive(t, w, 749697, 20000, 20000, 0) // est by 635 each time
		told(t, w, 749697, 700000, 10000)
	}
	for _, want := range []int{750165, 750799, 751433, 752066} {
		arrive(t, w, 749697, 20000, 20000, 0)
		told(t, w, want, 700000, 10000)
	}
}
