package secrets_test

import (
	"testing"

	"caravel/api"
	"caravel/secrets"
	"caravel/vault"
)

// Labels and bytes, written out.
func TestP12_3WrittenOut(t *testing.T) {
	v, is := vault.New(), term(t)
	k, s := v.Fresh(), v.Fresh()
	traffic := is(v.Derive(k, "client data", s[:]))
	finished := is(v.Derive(k, "finished", nil))
	mark := is(v.Derive(finished, "mark", s[:]))
	binder := is(v.Derive(k, "binder", nil))
	bound := is(v.Derive(binder, "mark", []byte("bare")))
	resume := is(v.Derive(k, "resume", s[:]))
	next := is(v.Derive(resume, "ticket", []byte("tick")))
	if is(secrets.Traffic(v, k, "client data", s)) != traffic {
		t.Error("Traffic is not derived so")
	}
	if is(secrets.Mark(v, k, s)) != mark {
		t.Error("Mark is not derived so")
	}
	if is(secrets.Bind(v, k, []byte("bare"))) != bound {
		t.Error("Bind is not derived so")
	}
	if is(secrets.Resume(v, k, s, []byte("tick"))) != next {
		t.Error("Resume is not derived so")
	}
	count(t, v, 10)
}

// The terms of each call, by their numbers.
func TestP12_3Numbers(t *testing.T) {
	v, is := vault.New(), term(t)
	k, s := v.Fresh(), v.Fresh()
	for range 2 { // terms that were made are not made again
		for i, got := range []vault.Handle{
			is(secrets.Traffic(v, k, secrets.ClientHand, s)),
			is(secrets.Mark(v, k, s)),
			is(secrets.Bind(v, k, []byte("bare"))),
			is(secrets.Resume(v, k, s, []byte("tick"))),
		} {
			if want := name([]int{3, 5, 7, 9}[i]); got != want {
				t.Fatalf("call %d = %x, not %x", i, got, want)
			}
		}
	}
	count(t, v, 10)
}

// The labels that are given.
func TestP12_3Labels(t *testing.T) {
	for got, want := range map[string]string{
		secrets.EarlyTraffic: "early",
		secrets.ClientHand:   "client hand",
		secrets.ServerHand:   "server hand",
		secrets.ClientData:   "client data",
		secrets.ServerData:   "server data",
	} {
		if got != want {
			t.Errorf("%q is not %q", got, want)
		}
	}
}

// Any label, none and long ones too; any term; and a script that is looked at as bytes alone.
func TestP12_3Traffic(t *testing.T) {
	x := newTwins(t)
	of := x.kinds()
	scripts := x.scripts(of[1])
	var list []vault.Handle
	for _, secret := range of {
		for _, label := range labels() {
			for _, s := range scripts {
				list = append(list, x.traffic(secret, label, s))
			}
		}
	}
	differ(t, "Traffic", list)
}

func TestP12_3Mark(t *testing.T) {
	x := newTwins(t)
	of := x.kinds()
	scripts := x.scripts(of[1])
	var list []vault.Handle
	for _, traffic := range of {
		for _, s := range scripts {
			list = append(list, x.mark(traffic, s))
		}
	}
	differ(t, "Mark", append(list, of...))
}

func TestP12_3Bind(t *testing.T) {
	x := newTwins(t)
	of := x.kinds()
	var list []vault.Handle
	for _, early := range of {
		for _, bare := range texts() {
			list = append(list, x.bind(early, bare))
		}
	}
	differ(t, "Bind", append(list, of...))
	if none, empty := x.bind(of[1], nil), x.bind(of[1], []byte{}); none != empty {
		t.Errorf("nil is %x, and nothing %x", none, empty)
	}
}

func TestP12_3Resume(t *testing.T) {
	x := newTwins(t)
	of := x.kinds()
	scripts := x.scripts(of[1])
	var list []vault.Handle
	for _, master := range of {
		for _, s := range scripts {
			for _, ticket := range texts() {
				list = append(list, x.resume(master, s, ticket))
			}
		}
	}
	differ(t, "Resume", append(list, of...))
	if none, empty := x.resume(of[1], of[2], nil), x.resume(of[1], of[2], []byte{}); none != empty {
		t.Errorf("nil is %x, and nothing %x", none, empty)
	}
}

// What is not a term's name, and no term behind it: whatever else is handed in.
func TestP12_3Nobodys(t *testing.T) {
	v := vault.New()
	good := v.Fresh()
	for _, h := range strangers(2) {
		for _, s := range append(strangers(2), good) {
			for _, label := range labels() {
				refused(t, "Traffic", api.ErrNone)(secrets.Traffic(v, h, label, s))
			}
			refused(t, "Mark", api.ErrNone)(secrets.Mark(v, h, s))
			refused(t, "Resume", api.ErrNone)(secrets.Resume(v, h, s, nil))
			refused(t, "Resume", api.ErrNone)(secrets.Resume(v, h, s, run(99)))
		}
		for _, bare := range texts() {
			refused(t, "Bind", api.ErrNone)(secrets.Bind(v, h, bare))
		}
	}
	count(t, v, 2)
}

// Calls whose steps are alike tell the same term: a label, and bytes, are just what they are.
func TestP12_3Alike(t *testing.T) {
	v, is := vault.New(), term(t)
	k, s := v.Fresh(), is(secrets.Begin(v))
	if is(secrets.Traffic(v, k, "message", s)) != is(secrets.Add(v, k, s[:])) {
		t.Error("Traffic and Add")
	}
	finished := is(v.Derive(k, "finished", nil))
	if is(secrets.Traffic(v, finished, "mark", s)) != is(secrets.Mark(v, k, s)) {
		t.Error("Traffic and Mark")
	}
	binder := is(v.Derive(k, "binder", nil))
	if is(secrets.Traffic(v, binder, "mark", s)) != is(secrets.Bind(v, k, s[:])) {
		t.Error("Traffic and Bind")
	}
	if is(secrets.Traffic(v, is(secrets.Traffic(v, k, "resume", k)), "ticket", s)) != is(secrets.Resume(v, k, k, s[:])) {
		t.Error("Traffic and Resume")
	}
}

// What the calls make of one secret differs, each from each, though bytes and scripts are the same.
func TestP12_3Apart(t *testing.T) {
	x := newTwins(t)
	k, s := x.fresh(), x.begin()
	list := []vault.Handle{
		k, s, x.add(k, s[:]), x.early(k), x.hand(k, k), x.hand(s, k), x.hand(k, s), x.master(k),
		x.mark(k, s), x.bind(k, s[:]), x.resume(k, s, s[:]), x.resume(k, k, s[:]), x.resume(k, s, k[:]),
	}
	for _, label := range labels()[:5] {
		list = append(list, x.traffic(k, label, s), x.traffic(k, label, k))
	}
	differ(t, "terms", list)
}
