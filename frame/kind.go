package frame

import "caravel/api"

// The flags that are added to a stream's kind.
const (
	finFlag    = 1
	lengthFlag = 2
	offsetFlag = 4
	allFlags   = finFlag | lengthFlag | offsetFlag
)

// The kinds of packets in which frames stand, as header numbers them; this layer does not stand on header.
const (
	initialPacket   = 0
	earlyPacket     = 1
	handshakePacket = 2
	shortPacket     = 5
)

// isKind tells whether a kind can stand in a packet: with all flags of streams.
func isKind(kind int) bool {
	return kind >= api.Padding && kind <= api.HandshakeDone || kind == api.Datagram || kind == api.DatagramLength
}

func isStream(kind int) bool { return kind&^allFlags == api.Stream }

// standing tells a frame's kind as it stands in a packet.
func standing(f api.Frame) int {
	if f.Kind != api.Stream {
		return f.Kind
	}
	kind := api.Stream
	if f.Offset != 0 {
		kind |= offsetFlag
	}
	if f.Length {
		kind |= lengthFlag
	}
	if f.Fin {
		kind |= finFlag
	}
	return kind
}

// beginning tells what a kind that stands in a packet says of its frame.
func beginning(kind int) api.Frame {
	if !isStream(kind) {
		return api.Frame{Kind: kind}
	}
	return api.Frame{Kind: api.Stream, Length: kind&lengthFlag != 0, Fin: kind&finFlag != 0}
}

// Eliciting tells whether a frame wants to be acknowledged.
func Eliciting(kind int) bool {
	switch kind {
	case api.Padding, api.Ack, api.AckEcn, api.CloseTransport, api.CloseApplication:
		return false
	}
	return isKind(kind)
}

// Allowed tells whether a frame may stand in a packet of a kind (header's).
func Allowed(kind, packet int) bool {
	if !isKind(kind) {
		return false
	}
	switch packet {
	case initialPacket, handshakePacket:
		return isOfHandshake(kind)
	case earlyPacket:
		return !isAfterHandshake(kind)
	case shortPacket:
		return true
	}
	return false
}

func isOfHandshake(kind int) bool {
	switch kind {
	case api.Padding, api.Ping, api.Ack, api.AckEcn, api.CryptoData, api.CloseTransport:
		return true
	}
	return false
}

// isAfterHandshake holds of kinds that answer something, or that only a server sends: a client's early packets can't have them.
func isAfterHandshake(kind int) bool {
	switch kind {
	case api.Ack, api.AckEcn, api.CryptoData, api.NewToken, api.PathResponse, api.RetireID, api.HandshakeDone:
		return true
	}
	return false
}
