package protect

import (
	"bytes"
	"errors"

	"caravel/api"
	"caravel/header"
	"caravel/octet"
	"caravel/vault"
)

// Open opens the first packet of bytes.
func Open(v *vault.Vault, k Keys, b []byte, ids, greatest int) (Packet, error) {
	switch {
	case noneOf(v, k):
		return Packet{}, api.ErrNil
	case greatest < -1 || greatest > api.MaxVar:
		return Packet{}, api.ErrArg
	}
	u, e := unmask(v, k, b, ids, isSealed)
	if e != api.OK {
		return Packet{}, e
	}
	p, e := u.open(v, k, greatest)
	return p, fault(e)
}

// Phase tells the phase bit of a short packet, unmasked.
func Phase(v *vault.Vault, k Keys, b []byte, ids int) (bool, api.Errno) {
	if noneOf(v, k) {
		return false, api.ErrNil
	}
	u, e := unmask(v, k, b, ids, isShort)
	return u.header.Phase, e
}

// fault tells what is wrong with a packet that was unmasked. One that its keys seal, and that is not formed as it must be, is the peer's own: that alone closes the connection.
func fault(e api.Errno) error {
	switch {
	case errors.Is(e, api.OK):
		return nil
	case errors.Is(e, api.ErrForm):
		return &api.Close{Code: api.Violation, Err: api.ErrForm}
	}
	return e
}

func isShort(kind int) bool { return kind == header.Short }

// unmasked is a packet whose first byte and number stand there as they were ahead of masking.
type unmasked struct {
	header header.Header
	front  []byte // its beginning, with as many bytes as a number can have
	at     int    // where the number begins
	whole  []byte // the packet as it came, and nothing behind it
}

// unmask reads the header of the first packet of bytes, which is to be of a kind that is wanted, and unmasks it.
func unmask(v *vault.Vault, k Keys, b []byte, ids int, wanted func(kind int) bool) (unmasked, api.Errno) {
	h, at, e := header.Read(b, ids)
	switch {
	case e != api.OK:
		return unmasked{}, e
	case !wanted(h.Kind):
		return unmasked{}, api.ErrArg
	}
	whole := b
	if !isShort(h.Kind) {
		whole = b[:at+h.Length]
	}
	m, e := maskOf(v, k, whole, at)
	if e != api.OK {
		return unmasked{}, e
	}
	// All bytes that a number can have are unmasked in a copy: those behind it are the sealed ones', and taken of the packet as it came.
	front := bytes.Clone(whole[:at+maxNumber])
	turn(front, at, maxNumber, m)
	h.Phase = isShort(h.Kind) && front[0]&phaseBit != 0
	return unmasked{header: h, front: front, at: at, whole: whole}, api.OK
}

// open tells what is sealed; ErrForm: it is sealed by the key, but may not be.
func (u unmasked) open(v *vault.Vault, k Keys, greatest int) (Packet, api.Errno) {
	// Neither is refused: all bytes of the number are there, and greatest was looked at.
	low, n, clear, _ := header.Number(u.front, u.at)
	number, _ := octet.Whole(low, n, greatest)
	from := u.at + n
	plain, e := v.Open(k.Key, number, u.front[:from], u.whole[from:])
	switch {
	case e != api.OK:
		return Packet{}, e
	case !clear || len(plain) == 0:
		return Packet{}, api.ErrForm
	}
	return Packet{Header: u.header, Number: number, Plain: plain, Size: len(u.whole)}, api.OK
}
