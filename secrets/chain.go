package secrets

import (
	"caravel/api"
	"caravel/vault"
)

// from tells a closure that makes terms one of another, the first of a key. Behind an error it makes none any more, and tells that error again: so a caller may look at the last step's answer alone.
func from(v *vault.Vault, key vault.Handle) func(label string, pieces ...[]byte) (vault.Handle, api.Errno) {
	last, e := key, api.OK
	return func(label string, pieces ...[]byte) (vault.Handle, api.Errno) {
		if e == api.OK {
			last, e = v.Derive(last, label, joined(pieces...))
		}
		return last, e
	}
}

// joined tells pieces as they stand one behind the other: of no piece, no byte.
func joined(pieces ...[]byte) (b []byte) {
	for _, piece := range pieces {
		b = append(b, piece...)
	}
	return b
}

// none tells that there is no vault: it is nil, or no call made it. Only such a one has no root.
func none(v *vault.Vault) bool { return v.Root() == (vault.Handle{}) }
