package frame_test

import (
	"errors"
	"fmt"
	"io"
	"testing"

	"caravel/api"
	"caravel/frame"
)

// wrap is an error of an own type that wraps another.
type wrap struct{ inner error }

func (w wrap) Error() string { return "wrapped" }

func (w wrap) Unwrap() error { return w.inner }

// angry panics whatever it is asked.
type angry struct{}

func (angry) Error() string { panic("Error") }

func (angry) Unwrap() error { panic("Unwrap") }

func (angry) As(any) bool { panic("As") }

// lists can't be held against each other.
type lists []int

func (lists) Error() string { return "lists" }

func TestP4_5Why(t *testing.T) {
	flow := &api.Close{Code: api.FlowControl, Kind: 8, Err: api.ErrFlow}
	application := &api.Close{Code: 77, App: true, Err: api.ErrClosed}
	var none *api.Close
	for _, x := range []struct {
		name string
		err  error
		e    api.Errno
		code int
	}{
		{"nil", nil, api.OK, 0},
		{"a Close", flow, api.ErrFlow, api.FlowControl},
		{"an application's", application, api.ErrClosed, 77},
		{"an alert", &api.Close{Code: api.Crypto + 40, Err: api.ErrAlert}, api.ErrAlert, 296},
		{"a Close of no fault", &api.Close{}, api.OK, 0},
		{"a Close of any number", &api.Close{Code: -5, Err: -7}, -7, -5},
		{"wrapped", wrap{flow}, api.ErrFlow, api.FlowControl},
		{"wrapped twice", wrap{fmt.Errorf("more: %w", flow)}, api.ErrFlow, api.FlowControl},
		{"beside a number", errors.Join(api.ErrEnd, flow), api.ErrFlow, api.FlowControl},
		{"ahead of a number", errors.Join(flow, api.ErrEnd), api.ErrFlow, api.FlowControl},
		{"the first of two", errors.Join(flow, application), api.ErrFlow, api.FlowControl},
		{"a number", api.ErrEnd, api.ErrEnd, api.InternalError},
		{"ErrArg", api.ErrArg, api.ErrArg, api.InternalError},
		{"a number that no constant is", api.Errno(1234), 1234, api.InternalError},
		{"OK as an error", api.OK, api.OK, api.InternalError},
		{"a number, wrapped", wrap{wrap{api.ErrState}}, api.ErrState, api.InternalError},
		{"a number beside others", errors.Join(io.EOF, api.ErrLine), api.ErrLine, api.InternalError},
		{"another", io.EOF, api.ErrArg, api.InternalError},
		{"another, wrapped", wrap{io.EOF}, api.ErrArg, api.InternalError},
		{"what wraps nothing", wrap{}, api.ErrArg, api.InternalError},
		{"lists", lists{1}, api.ErrArg, api.InternalError},
		{"what panics", angry{}, api.ErrArg, api.InternalError},
		{"what wraps what panics", wrap{angry{}}, api.ErrArg, api.InternalError},
		{"a Close that is nil", none, api.ErrArg, api.InternalError},
		{"a Close that is nil, wrapped", wrap{none}, api.ErrArg, api.InternalError},
		{"a Close that is nil, behind a number", errors.Join(api.ErrEnd, none), api.ErrEnd, api.InternalError},
	} {
		if e, code := frame.Why(x.err); e != x.e || code != x.code {
			t.Errorf("%s: Why = %d, %d; want %d, %d", x.name, int(e), code, int(x.e), x.code)
		}
	}
}

// TestP4_5WhyOfFrames: of what Read and All tell.
func TestP4_5WhyOfFrames(t *testing.T) {
	for _, x := range []struct {
		text string
		e    api.Errno
		code int
	}{
		{"4001", api.ErrForm, api.Violation},
		{"20", api.ErrKind, api.FrameEncoding},
		{"0700", api.ErrForm, api.FrameEncoding},
		{"0401", api.ErrEnd, api.FrameEncoding},
		{"02 00 00 4100", api.ErrBig, api.FrameEncoding},
		{"01", api.OK, api.NoError},
	} {
		_, _, err := frame.Read(hx(t, x.text), 0)
		if e, code := frame.Why(err); e != x.e || code != x.code {
			t.Errorf("%s: Why = %d, %d", x.text, int(e), code)
		}
		_, err = frame.All(hx(t, x.text))
		if e, code := frame.Why(err); e != x.e || code != x.code {
			t.Errorf("%s: Why of All = %d, %d", x.text, int(e), code)
		}
	}
	_, err := frame.All(nil)
	if e, code := frame.Why(err); e != api.ErrForm || code != api.Violation {
		t.Errorf("Why = %d, %d", int(e), code)
	}
	_, _, err = frame.Read(nil, -1)
	if e, code := frame.Why(err); e != api.ErrArg || code != api.InternalError {
		t.Errorf("Why = %d, %d", int(e), code)
	}
}
