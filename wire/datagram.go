package wire

import "cistern/api"

// Datagram is what came from a client: a hello, or data. Its lists are lent: they lie in the bytes that were read.
type Datagram struct {
	Kind   int // api.Hello, api.Data
	Size   int // of the whole datagram
	Cid    int
	Token  []byte // of a hello
	Packet int    // of data: the packet's number
	Frames []byte // not looked into yet
}

// ReadDatagram reads a datagram up to its frames. Its error holds a *None.
func ReadDatagram(b []byte) (Datagram, error) {
	r := reader{rest: b}
	d := Datagram{Kind: r.kind("kind"), Size: len(b)}
	switch d.Kind {
	case api.Hello:
		d.Cid = r.number("cid")
		d.Token = r.bytes("token", r.number("token's length"))
	case api.Data:
		d.Cid = r.number("cid")
		d.Packet = r.number("packet's number")
	default:
		r.unknown("kind", d.Kind)
	}
	if r.err != nil {
		return Datagram{}, &Within{Part: "datagram", Cause: r.err}
	}
	d.Frames = r.rest
	return d, nil
}

// Retry writes a retry with a token.
func Retry(cid int, token []byte) []byte {
	b := AppendNumber([]byte{api.Retry}, cid)
	b = AppendNumber(b, len(token))
	return append(b, token...)
}

// News writes news with one frame, of a type, with numbers behind it.
func News(cid int, kind byte, numbers ...int) []byte {
	b := append(AppendNumber([]byte{api.News}, cid), kind)
	for _, n := range numbers {
		b = AppendNumber(b, n)
	}
	return b
}
