package handshake

import (
	"errors"
	"strconv"

	"caravel/api"
)

// The alerts.
const (
	unexpected = 10
	untrusted  = 42
	illegal    = 47
	unreadable = 50
	unproven   = 51
	otherName  = 112
	noProto    = 120
)

// wrong is what is wrong with what the peer said: the alert that tells it, around what a layer below answered, if one did.
type wrong struct {
	alert int
	err   error
}

func (w *wrong) Error() string {
	text := "handshake: alert " + strconv.Itoa(w.alert)
	if w.err != nil {
		text += ": " + w.err.Error()
	}
	return text
}

// Unwrap tells what a layer below answered.
func (w *wrong) Unwrap() error { return w.err }

// alert tells an error that closes the machine with an alert.
func alert(number int) error { return &wrong{alert: number} }

// closing tells what an error closes a machine with: nothing, if it is not about what the peer said.
func closing(err error) api.Close {
	var w *wrong
	if errors.As(err, &w) {
		return api.Close{Code: api.Crypto + w.alert, Err: api.ErrAlert}
	}
	var c *api.Close
	if errors.As(err, &c) {
		return *c
	}
	return api.Close{}
}

// why tells with what a machine was closed: each time anew, since the caller may change what it is told.
func (m *Machine) why() error {
	c := m.closed
	return &c
}
