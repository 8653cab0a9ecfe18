package secrets

import (
	"testing"

	"caravel/api"
	"caravel/vault"
)

// Each term is made of the last one; pieces are joined.
func TestFrom(t *testing.T) {
	v := vault.New()
	key := v.Fresh()
	next := from(v, key)
	for _, pieces := range [][][]byte{nil, {[]byte("ab")}, {[]byte("a"), []byte("b")}, {nil, []byte("a"), {}, []byte("bc"), nil}} {
		var all string
		for _, piece := range pieces {
			all += string(piece)
		}
		h, e := next("label", pieces...)
		want, _ := v.Derive(key, "label", []byte(all))
		if h != want || e != api.OK {
			t.Fatalf("%q: %x, %d; not %x", pieces, h, int(e), want)
		}
		key = h
	}
}

// Behind an error nothing is made, whatever became of the vault since.
func TestFromStops(t *testing.T) {
	v := new(vault.Vault)
	next := from(v, vault.New().Root())
	for range 2 {
		if h, e := next("label"); h != (vault.Handle{}) || e != api.ErrNil {
			t.Fatalf("%x, %d", h, int(e))
		}
		*v = *vault.New()
	}
}

func TestJoined(t *testing.T) {
	a, b := []byte("abX")[:2], []byte("cd")
	if got := joined(a, nil, b); string(got) != "abcd" || string(a[:3]) != "abX" {
		t.Errorf("%q, and %q behind it", got, a[:3])
	}
	if got := joined(a); &got[0] == &a[0] {
		t.Error("one piece is handed on as it is")
	}
	if len(joined()) != 0 || len(joined(nil)) != 0 || len(joined(nil, []byte{})) != 0 {
		t.Error("nothing is joined to something")
	}
}
