package secrets_test

import (
	"testing"

	"caravel/api"
	"caravel/secrets"
	"caravel/vault"
)

// Labels and bytes, written out.
func TestP12_2WrittenOut(t *testing.T) {
	v, is := vault.New(), term(t)
	before, shared := v.Fresh(), v.Fresh()
	early := is(v.Derive(before, "early", nil))
	half := is(v.Derive(shared, "hand", early[:]))
	hand := is(v.Derive(half, "both", early[:]))
	master := is(v.Derive(hand, "master", nil))
	nothing := is(v.Derive(v.Root(), "early", nil))
	if is(secrets.Early(v, before)) != early || is(secrets.Hand(v, early, shared)) != hand || is(secrets.Master(v, hand)) != master {
		t.Error("the secrets are not derived so")
	}
	if is(secrets.Early(v, vault.Handle{})) != nothing {
		t.Error("the first secret of nothing is not derived so")
	}
	count(t, v, 8)
}

// The terms of each call, by their numbers.
func TestP12_2Numbers(t *testing.T) {
	v, is := vault.New(), term(t)
	shared := v.Fresh()
	for range 2 { // terms that were made are not made again
		if h := is(secrets.Early(v, vault.Handle{})); h != name(2) {
			t.Fatalf("Early = %x", h)
		}
		if h := is(secrets.Hand(v, name(2), shared)); h != name(4) {
			t.Fatalf("Hand = %x", h)
		}
		if h := is(secrets.Master(v, name(4))); h != name(5) {
			t.Fatalf("Master = %x", h)
		}
	}
	count(t, v, 6)
}

// Of every kind of term, and of the zero handle, which stands for the root.
func TestP12_2Early(t *testing.T) {
	x := newTwins(t)
	nothing := x.early(vault.Handle{})
	list := []vault.Handle{}
	for _, before := range x.kinds() {
		list = append(list, x.early(before), before)
	}
	if list[0] != nothing || x.early(vault.Handle{}) != nothing {
		t.Errorf("of nothing it is %x, of the root %x", nothing, list[0])
	}
	differ(t, "Early", list)
}

// The zero handle alone stands for nothing: no other one that is no term's name does.
func TestP12_2EarlyNobodys(t *testing.T) {
	v := vault.New()
	v.Fresh()
	for _, before := range strangers(2)[1:] {
		refused(t, "Early", api.ErrNone)(secrets.Early(v, before))
	}
	count(t, v, 2)
}

// Each of the two is any term, the same one too; which is which is told apart.
func TestP12_2Hand(t *testing.T) {
	x := newTwins(t)
	of := append(x.kinds(), x.early(vault.Handle{}))
	var list []vault.Handle
	for _, early := range of {
		for _, shared := range of {
			list = append(list, x.hand(early, shared))
		}
	}
	differ(t, "Hand", append(list, of...))
}

func TestP12_2HandNobodys(t *testing.T) {
	v := vault.New()
	good := v.Fresh()
	for _, h := range strangers(2) {
		refused(t, "Hand: early", api.ErrNone)(secrets.Hand(v, h, good))
		refused(t, "Hand: shared", api.ErrNone)(secrets.Hand(v, good, h))
		for _, other := range strangers(2) {
			refused(t, "Hand: both", api.ErrNone)(secrets.Hand(v, h, other))
		}
	}
	count(t, v, 2)
}

// A name of a term to come is refused until that term is made.
func TestP12_2HandToCome(t *testing.T) {
	x := newTwins(t)
	good, next := x.fresh(), name(2)
	refused(t, "early to come", api.ErrNone)(secrets.Hand(x.v, next, good))
	refused(t, "shared to come", api.ErrNone)(secrets.Hand(x.v, good, next))
	if h := x.fresh(); h != next {
		t.Fatalf("%x", h)
	}
	x.hand(next, good)
	x.hand(good, next)
}

func TestP12_2Master(t *testing.T) {
	x := newTwins(t)
	list := []vault.Handle{}
	for _, hand := range x.kinds() {
		list = append(list, x.master(hand), hand)
	}
	differ(t, "Master", list)
}

// The zero handle stands for nothing in Early alone.
func TestP12_2MasterNobodys(t *testing.T) {
	v := vault.New()
	v.Fresh()
	for _, h := range strangers(2) {
		refused(t, "Master", api.ErrNone)(secrets.Master(v, h))
	}
	count(t, v, 2)
}

// The secrets of one handshake differ, each from each, and from those of another one.
func TestP12_2Apart(t *testing.T) {
	x := newTwins(t)
	var list []vault.Handle
	for _, before := range []vault.Handle{{}, x.fresh(), x.fresh()} {
		early := x.early(before)
		list = append(list, early)
		for range 2 {
			hand := x.hand(early, x.fresh())
			list = append(list, hand, x.master(hand))
		}
	}
	differ(t, "secrets", list)
}
