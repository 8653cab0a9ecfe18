package protect

import (
	"caravel/api"
	"caravel/header"
	"caravel/octet"
	"caravel/vault"
)

// maxPlain is how many plain bytes a packet may have.
const maxPlain = 16000

// sealSize is how many bytes more than plain ones are sealed.
const sealSize = len(vault.Handle{})

// Seal tells a packet's bytes.
func Seal(v *vault.Vault, k Keys, p Packet, acked int) ([]byte, api.Errno) {
	if noneOf(v, k) {
		return nil, api.ErrNil
	}
	front, at, e := frontOf(p, acked)
	if e != api.OK {
		return nil, e
	}
	sealed, e := v.Seal(k.Key, p.Number, front, p.Plain)
	if e != api.OK {
		return nil, e
	}
	b := append(front, sealed...)
	m, e := maskOf(v, k, b, at)
	if e != api.OK {
		return nil, e
	}
	turn(b, at, len(front)-at, m)
	return b, api.OK
}

// frontOf tells all bytes ahead of what is sealed, and where the number begins.
func frontOf(p Packet, acked int) (front []byte, at int, e api.Errno) {
	if !isSealed(p.Header.Kind) {
		return nil, 0, api.ErrArg
	}
	n, e := octet.Short(p.Number, acked)
	if e != api.OK {
		return nil, 0, e
	}
	// With fewer plain bytes the sample would reach beyond the packet.
	if len(p.Plain) < maxNumber-n || len(p.Plain) > maxPlain {
		return nil, 0, api.ErrArg
	}
	h := p.Header
	h.Length = n + len(p.Plain) + sealSize
	return header.Put(h, uint64(p.Number), n)
}

// isSealed holds of the kinds of packets that have a number.
func isSealed(kind int) bool {
	switch kind {
	case header.Initial, header.Early, header.Handshake, header.Short:
		return true
	}
	return false
}
