package vault

import "caravel/api"

// maxPlain is how many bytes may be sealed.
const maxPlain = 1 << 16

// Seal seals bytes by a key, under a number and further bytes.
func (v *Vault) Seal(key Handle, number int, also, plain []byte) ([]byte, api.Errno) {
	k, e := v.sealer(key, number)
	switch {
	case e != api.OK:
		return nil, e
	case len(plain) > maxPlain:
		return nil, api.ErrBig
	}
	h := v.made(sealedText(k, number, also, string(plain)))
	return append(make([]byte, len(plain), len(plain)+len(h)), h[:]...), api.OK
}

// Open tells the bytes.
func (v *Vault) Open(key Handle, number int, also, sealed []byte) ([]byte, api.Errno) {
	k, e := v.sealer(key, number)
	if e != api.OK {
		return nil, e
	}
	t, ok := v.behindZeros(sealed)
	if !ok || t != sealedText(k, number, also, t.bytes) {
		return nil, api.ErrSeal
	}
	return []byte(t.bytes), api.OK
}

// sealer tells the number of a key that seals under a number.
func (v *Vault) sealer(key Handle, number int) (int, api.Errno) {
	k, e := v.number(key)
	switch {
	case e != api.OK:
		return 0, e
	case number < 0:
		return 0, api.ErrArg
	}
	return k, api.OK
}

// sealedText tells what a sealed text is made of.
func sealedText(key, number int, also []byte, plain string) term {
	return term{kind: isSealed, of: key, with: number, under: string(also), bytes: plain}
}

// behindZeros tells the term whose name stands behind as many bytes 0 as it has bytes, and nothing else.
func (v *Vault) behindZeros(b []byte) (term, bool) {
	at := len(b) - len(Handle{})
	if at < 0 {
		return term{}, false
	}
	n, e := v.number(Handle(b[at:]))
	if e != api.OK || at != len(v.terms[n].bytes) {
		return term{}, false
	}
	for _, zero := range b[:at] {
		if zero != 0 {
			return term{}, false
		}
	}
	return v.terms[n], true
}
