package vault

import "iter"

// Handle is the name of a term.
type Handle [16]byte

// half is how many bytes of a name one mix tells.
const half = len(Handle{}) / 2

// The factors of mix, and by which they are undone, modulo 2^64.
const (
	spread, gather uint64 = 0x9e3779b97f4a7c15, 0xf1de83e19937733d
	stir, unstir   uint64 = 0xbf58476d1ce4e5b9, 0x96de1b173f119089
	blend, unblend uint64 = 0x94d049bb133111eb, 0x319642b2d24d8ec3
)

// name tells the name of the term of a number, whether there is one yet or not.
func name(n int) (h Handle) {
	put(h[:half], mix(2*uint64(n)))
	put(h[half:], mix(2*uint64(n)+1))
	return h
}

// numbered tells of which number it is the name. It asks mix backwards, so names of terms to come are found, too.
func numbered(h Handle) (int, bool) {
	x := unmix(read(h[:half]))
	if mix(x+1) != read(h[half:]) || x%2 != 0 {
		return 0, false
	}
	return int(x / 2), true
}

// names goes through the numbers whose names are in bytes, those of terms to come, too.
func names(b []byte) iter.Seq[int] {
	return func(yield func(int) bool) {
		for at := range len(b) - len(Handle{}) + 1 {
			n, ok := numbered(Handle(b[at : at+len(Handle{})]))
			if ok && !yield(n) {
				return
			}
		}
	}
}

func mix(x uint64) uint64 {
	z := (x + 1) * spread
	z = (z ^ z>>30) * stir
	z = (z ^ z>>27) * blend
	return z ^ z>>31
}

// unmix tells of what mix makes a number. An exclusive or with what is shifted by k is undone by those by k and 2k, as long as 3k is 64 or more.
func unmix(z uint64) uint64 {
	z = (z ^ z>>31 ^ z>>62) * unblend
	z = (z ^ z>>27 ^ z>>54) * unstir
	return (z^z>>30^z>>60)*gather - 1
}

// put lays a number, the highest byte first.
func put(b []byte, z uint64) {
	for i := range b {
		b[i] = byte(z >> (8 * (half - 1 - i)))
	}
}

// read tells a number, the highest byte first.
func read(b []byte) (z uint64) {
	for _, x := range b {
		z = z<<8 | uint64(x)
	}
	return z
}
