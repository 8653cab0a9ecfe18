package frame

import "caravel/api"

// maxStreams is the greatest limit of streams: two bits of a stream's number are not its place.
const maxStreams = 1 << 60

// parts goes through fields one behind the other: a putter lays their bytes, a reader fills them in. So the order of a kind's fields stands in one place.
type parts interface {
	padding(count *int)
	numbers(vs ...*int)
	acks(f *api.Frame)
	id(id *[]byte)
	array(b []byte)
	counted(data *[]byte) // how many bytes, and they
	rest(data *[]byte)    // to the packet's end
}

// walk goes through what stands behind a kind that there is.
func walk(p parts, kind int, f *api.Frame) {
	if isStream(kind) {
		walkStream(p, kind, f)
		return
	}
	switch kind {
	case api.Padding:
		p.padding(&f.Count)
	case api.Ack:
		p.acks(f)
	case api.AckEcn:
		p.acks(f)
		p.numbers(&f.Ecn[0], &f.Ecn[1], &f.Ecn[2])
	case api.ResetStream:
		p.numbers(&f.Stream, &f.Code, &f.Limit)
	case api.StopSending:
		p.numbers(&f.Stream, &f.Code)
	case api.MaxStreamData, api.StreamDataBlocked:
		p.numbers(&f.Stream)
		fallthrough
	case api.MaxData, api.DataBlocked, api.MaxStreamsBidi, api.MaxStreamsUni, api.StreamsBlockBidi, api.StreamsBlockUni:
		p.numbers(&f.Limit)
	case api.NewConnectionID:
		p.numbers(&f.Seq, &f.Retire)
		p.id(&f.ID)
		p.array(f.Reset[:])
	case api.RetireID:
		p.numbers(&f.Seq)
	case api.PathChallenge, api.PathResponse:
		p.array(f.Path[:])
	case api.CloseTransport:
		p.numbers(&f.Code, &f.Of)
		p.counted(&f.Data)
	case api.CloseApplication:
		p.numbers(&f.Code)
		p.counted(&f.Data)
	case api.CryptoData:
		p.numbers(&f.Offset)
		fallthrough
	case api.NewToken, api.DatagramLength:
		p.counted(&f.Data)
	case api.Datagram:
		p.rest(&f.Data)
	}
}

func walkStream(p parts, kind int, f *api.Frame) {
	p.numbers(&f.Stream)
	if kind&offsetFlag != 0 {
		p.numbers(&f.Offset)
	}
	if kind&lengthFlag != 0 {
		p.counted(&f.Data)
	} else {
		p.rest(&f.Data)
	}
}

// mayBe tells whether a frame may be, by the table; that numbers are of variable length, and spans in their order, is left to those who lay and read them.
func mayBe(f api.Frame) bool {
	switch f.Kind {
	case api.Padding:
		return f.Count >= 1
	case api.CryptoData, api.Stream:
		return f.Offset <= api.MaxVar-len(f.Data)
	case api.NewToken:
		return len(f.Data) > 0
	case api.MaxStreamsBidi, api.MaxStreamsUni, api.StreamsBlockBidi, api.StreamsBlockUni:
		return f.Limit <= maxStreams
	case api.NewConnectionID:
		return f.Retire <= f.Seq && len(f.ID) >= 1 && len(f.ID) <= api.MaxID
	}
	return true
}
