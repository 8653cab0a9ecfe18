package header

import (
	"caravel/api"
	"caravel/octet"
)

// reader goes through a packet from its front to its back. Once bytes are lacking it stands still, and tells zero values: so that bytes that lack are asked for once, behind several fields.
type reader struct {
	b       []byte
	at      int
	lacking bool
}

func (r *reader) left() int { return len(r.b) - r.at }

// take tells the next n bytes, bounded: what is laid behind a piece is not written over the datagram.
func (r *reader) take(n int) []byte {
	if r.lacking || n > r.left() {
		r.lacking = true
		return nil
	}
	end := r.at + n
	piece := r.b[r.at:end:end]
	r.at = end
	return piece
}

func (r *reader) number(n int) int {
	v, next, e := octet.Get(r.b, r.at, n)
	return r.pass(int(v), next, e)
}

func (r *reader) variable() int {
	return r.pass(octet.Var(r.b, r.at))
}

// pass goes on to next, unless octet, or what was read ahead, ran out of bytes.
func (r *reader) pass(v, next int, e api.Errno) int {
	if r.lacking || e != api.OK {
		r.lacking = true
		return 0
	}
	r.at = next
	return v
}

func (r *reader) short(h *Header, ids int) api.Errno {
	if r.b[0]&fixedBit == 0 {
		return api.ErrForm
	}
	h.Kind = Short
	h.Phase = r.b[0]&phaseBit != 0
	h.Dst = r.take(ids)
	if r.lacking {
		return api.ErrEnd
	}
	return api.OK
}

func (r *reader) long(h *Header) api.Errno {
	h.Version = r.number(4)
	h.Dst = r.take(r.number(1))
	h.Src = r.take(r.number(1))
	if r.lacking {
		return api.ErrEnd
	}
	if len(h.Dst) > api.MaxID || len(h.Src) > api.MaxID {
		return api.ErrForm
	}
	switch h.Version {
	case 0:
		h.Kind = Versions
		return r.versions(h)
	case api.Version:
		return r.spoken(h)
	}
	h.Kind = Other
	return api.OK
}

// versions goes on to the packet's end, which must be that of a version.
func (r *reader) versions(h *Header) api.Errno {
reading:
	for {
		v := r.number(4)
		switch {
		case !r.lacking:
			h.List = append(h.List, v)
		case r.left() > 0 || len(h.List) == 0:
			return api.ErrForm
		default:
			break reading
		}
	}
	return api.OK
}

// spoken reads what stands behind the identifiers in the version that is spoken here.
func (r *reader) spoken(h *Header) api.Errno {
	if r.b[0]&fixedBit == 0 {
		return api.ErrForm
	}
	h.Kind = int(r.b[0]>>kindShift) & kindMask
	switch h.Kind {
	case Initial:
		h.Token = r.take(r.variable())
		fallthrough
	case Early, Handshake:
		h.Length = r.variable()
	case Retry:
		return r.retry(h)
	}
	switch {
	case r.lacking:
		return api.ErrEnd
	case len(h.Token) > api.MaxToken:
		return api.ErrForm
	case h.Length > r.left():
		return api.ErrEnd
	}
	return api.OK
}

func (r *reader) retry(h *Header) api.Errno {
	n := r.left() - len(h.Tag)
	if n < 0 {
		return api.ErrEnd
	}
	h.Token = r.take(n)
	if !isRetryToken(h.Token) {
		return api.ErrForm
	}
	copy(h.Tag[:], r.take(len(h.Tag)))
	return api.OK
}
