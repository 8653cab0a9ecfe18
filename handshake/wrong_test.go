package handshake

import (
	"errors"
	"testing"

	"caravel/api"
)

// What a layer below answered is found within, and the alert tells the closing; what is closed otherwise keeps its code.
func TestWrong(t *testing.T) {
	around := &wrong{illegal, api.ErrNone}
	for _, c := range []struct {
		err  error
		text string
		want api.Close
	}{
		{around, "handshake: alert 47: caravel: error 15", api.Close{Code: 256 + 47, Err: api.ErrAlert}},
		{alert(unexpected), "handshake: alert 10", api.Close{Code: 256 + 10, Err: api.ErrAlert}},
		{&wrong{unreadable, &api.Close{Code: 1}}, "handshake: alert 50: caravel: closed with 1: caravel: error 0", api.Close{Code: 256 + 50, Err: api.ErrAlert}},
		{&api.Close{Code: 13, Err: api.ErrBig}, "caravel: closed with 13: caravel: error 3", api.Close{Code: 13, Err: api.ErrBig}},
	} {
		if c.err.Error() != c.text || closing(c.err) != c.want {
			t.Errorf("%q closes with %v", c.err.Error(), closing(c.err))
		}
	}
	if !errors.Is(around, api.ErrNone) || errors.Is(alert(illegal), api.ErrNone) {
		t.Error("what a layer below answered is not found")
	}
}

// What a machine waits for: each step has what is done, and where nothing is expected no level is.
func TestExpected(t *testing.T) {
	for wants := wantsClient; wants < wantsNothing; wants++ {
		if next := expected(wants); next.do == nil || next.kind == 0 || next.level == nowhere {
			t.Errorf("%d: there is no step", wants)
		}
	}
	for _, wants := range []int{wantsStart, wantsNothing, -1, 99} {
		if next := expected(wants); next.do != nil || next.level != nowhere {
			t.Errorf("%d: there is a step", wants)
		}
	}
}
