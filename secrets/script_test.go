package secrets_test

import (
	"testing"

	"caravel/api"
	"caravel/secrets"
	"caravel/vault"
)

// The chapter's example.
func TestP12_1Example(t *testing.T) {
	v, is := vault.New(), term(t)
	for range 2 { // terms that were made are not made again
		if s := is(secrets.Begin(v)); s != name(1) {
			t.Fatalf("Begin = %x", s)
		}
		if s := is(secrets.Add(v, name(1), []byte("a"))); s != name(2) {
			t.Fatalf("Add = %x", s)
		}
	}
	refused(t, "Add of the zero handle", api.ErrNone)(secrets.Add(v, vault.Handle{}, []byte("b")))
	refused(t, "Add of the zero handle", api.ErrNone)(secrets.Add(v, secrets.Script{}, nil))
	count(t, v, 3)
}

// Labels and bytes, written out.
func TestP12_1WrittenOut(t *testing.T) {
	v, is := vault.New(), term(t)
	begin := is(v.Derive(v.Root(), "script", nil))
	one := is(v.Derive(begin, "message", []byte("one")))
	two := is(v.Derive(one, "message", []byte("two")))
	if is(secrets.Begin(v)) != begin || is(secrets.Add(v, begin, []byte("one"))) != one || is(secrets.Add(v, one, []byte("two"))) != two {
		t.Error("the script is not derived so")
	}
	count(t, v, 4)
}

func TestP12_1Begin(t *testing.T) {
	x := newTwins(t)
	s := x.begin()
	x.kinds()
	if again := x.begin(); again != s {
		t.Errorf("%x, then %x", s, again)
	}
}

// Messages of any length, none too; scripts of any kind of term.
func TestP12_1Add(t *testing.T) {
	x := newTwins(t)
	list := []vault.Handle{x.begin()}
	of := append(x.kinds(), list[0])
	for _, s := range of {
		for _, message := range texts() {
			list = append(list, x.add(s, message))
		}
	}
	differ(t, "Add", append(list, of[:len(of)-1]...))
	if none, empty := x.add(of[1], nil), x.add(of[1], []byte{}); none != empty {
		t.Errorf("nil is %x, and nothing %x", none, empty)
	}
}

// What was said, in which order, and where one message ends, is told apart.
func TestP12_1Apart(t *testing.T) {
	x := newTwins(t)
	var list []vault.Handle
	for _, said := range [][]string{{}, {""}, {"", ""}, {"a"}, {"b"}, {"ab"}, {"a", "b"}, {"b", "a"}, {"", "ab"}, {"ab", ""}, {"a", "", "b"}, {"a", "b", ""}} {
		s := x.begin()
		for _, message := range said {
			s = x.add(s, []byte(message))
		}
		list = append(list, s)
	}
	differ(t, "scripts", list)
}

func TestP12_1Nobodys(t *testing.T) {
	v, is := vault.New(), term(t)
	is(secrets.Begin(v))
	for _, s := range strangers(2) {
		for _, message := range texts() {
			refused(t, "Add", api.ErrNone)(secrets.Add(v, s, message))
		}
	}
	count(t, v, 2)
}
