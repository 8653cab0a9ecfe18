// Package octet is layer 1: see shared/doc/01-octet.md.
package octet

import "caravel/api"

// widths holds how many bytes a number of variable length can have; the index is its mark, which the two highest bits of the first byte say.
var widths = [4]int{1, 2, 4, 8}

// Size tells how many bytes a number of variable length has.
func Size(v int) (int, api.Errno) {
	for _, n := range widths {
		if fits(v, n) {
			return n, api.OK
		}
	}
	return 0, api.ErrArg
}

// PutVar lays a number behind others, in as few bytes as it needs.
func PutVar(b []byte, v int) ([]byte, api.Errno) {
	n, e := Size(v)
	if e != api.OK {
		return nil, e
	}
	return PutWide(b, v, n)
}

// PutWide lays it in n bytes.
func PutWide(b []byte, v, n int) ([]byte, api.Errno) {
	mark, known := markOf(n)
	if !isVar(v) || !known {
		return nil, api.ErrArg
	}
	if !fits(v, n) {
		return nil, api.ErrBig
	}
	return lay(b, uint64(mark)<<room(n)|uint64(v), n), api.OK
}

// Var reads a number, and tells the place behind it.
func Var(b []byte, at int) (v, next int, e api.Errno) {
	if !isPlace(b, at) {
		return 0, 0, api.ErrArg
	}
	if at == len(b) {
		return 0, 0, api.ErrEnd
	}
	n := widths[b[at]>>6]
	if n > len(b)-at {
		return 0, 0, api.ErrEnd
	}
	unmarked := take(b, at, n) & (1<<room(n) - 1)
	return int(unmarked), at + n, api.OK
}

// Put lays the lowest n bytes of a number, the highest first.
func Put(b []byte, v uint64, n int) ([]byte, api.Errno) {
	if n < 1 || n > 8 {
		return nil, api.ErrArg
	}
	return lay(b, v, n), api.OK
}

// Get reads n bytes.
func Get(b []byte, at, n int) (v uint64, next int, e api.Errno) {
	if n < 1 || n > 8 || !isPlace(b, at) {
		return 0, 0, api.ErrArg
	}
	if n > len(b)-at {
		return 0, 0, api.ErrEnd
	}
	return take(b, at, n), at + n, api.OK
}

// Short tells how many bytes a packet's number needs, if the greatest that was acknowledged is another one (-1: none).
func Short(number, acked int) (int, api.Errno) {
	if !isVar(number) || acked < -1 || acked >= number {
		return 0, api.ErrArg
	}
	ahead := number - acked
	for i := range 3 {
		// Half of the range is held against ahead itself: twice ahead could leave int.
		if n := i + 1; ahead < 1<<(8*n-1) {
			return n, api.OK
		}
	}
	return 4, api.OK
}

// Whole tells a packet's number of its lowest n bytes, if the greatest that came is another one (-1: none).
func Whole(low uint64, n, greatest int) (int, api.Errno) {
	if n < 1 || n > 4 || low>>(8*n) != 0 || greatest < -1 || greatest > api.MaxVar {
		return 0, api.ErrArg
	}
	least := int(low)
	period := 1 << (8 * n)
	// The greatest candidate up to half a period above greatest + 1 is the nearest, and of two as near the greater one; least is taken where none is so low.
	top := max(least, min(greatest+1+period/2, api.MaxVar))
	return top - (top-least)%period, api.OK
}

func isVar(v int) bool { return v >= 0 && v <= api.MaxVar }

// room tells how many bits of n bytes are the number's: the mark has the two others.
func room(n int) int { return 8*n - 2 }

// fits holds of no number below 0: a shift keeps its sign.
func fits(v, n int) bool { return v>>room(n) == 0 }

func isPlace(b []byte, at int) bool { return at >= 0 && at <= len(b) }

func markOf(n int) (mark int, known bool) {
	for i, width := range widths {
		if width == n {
			return i, true
		}
	}
	return 0, false
}

// lay copies b, as its spare room is not ours to write into.
func lay(b []byte, v uint64, n int) []byte {
	out := make([]byte, len(b)+n)
	copy(out, b)
	for i := range n {
		out[len(out)-1-i] = byte(v >> (8 * i))
	}
	return out
}

func take(b []byte, at, n int) uint64 {
	v := uint64(0)
	for i := range n {
		v = v<<8 | uint64(b[at+i])
	}
	return v
}
