package protect

import (
	"caravel/api"
	"caravel/vault"
)

// maxNumber is how many bytes a packet's number can have: the sample stands behind so many, as its length is masked.
const maxNumber = 4

// sampleSize is how many bytes a mask is made of.
const sampleSize = 16

// The bits of a first byte.
const (
	longBit   = 0x80
	longMask  = 0x0f // those that are masked
	shortMask = 0x1f
	phaseBit  = 0x04 // of short headers
)

// maskOf tells what a packet is masked with, whose number begins at a place.
func maskOf(v *vault.Vault, k Keys, b []byte, at int) (vault.Handle, api.Errno) {
	from := at + maxNumber
	if len(b) < from+sampleSize {
		return vault.Handle{}, api.ErrEnd
	}
	return v.Derive(k.Mask, "mask", b[from:from+sampleSize])
}

// turn masks a first byte and the n bytes of a number in their place; turned again, they are as before.
func turn(b []byte, at, n int, m vault.Handle) {
	bits := byte(shortMask)
	if b[0]&longBit != 0 {
		bits = longMask
	}
	b[0] ^= m[0] & bits
	for i := range n {
		b[at+i] ^= m[1+i]
	}
}
