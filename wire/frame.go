package wire

import "cistern/api"

// Frame is a client's frame.
type Frame struct {
	Type   int
	Stream int    // of Stream, Last, Reset: the stream's id
	Offset int    // of Stream, Last
	Bytes  []byte // of Stream, Last; they are lent: they lie in the bytes that were read
	End    int    // of Stream, Last: offset and length; of Reset: the final size
	Proof  int    // of Prove
}

// TellsFinal tells whether the frame's end is the stream's final size.
func (f Frame) TellsFinal() bool { return f.Type == api.Last || f.Type == api.Reset }

// ReadFrame reads the frame at the front of b, and tells how many bytes it has. Its error holds a *None.
func ReadFrame(b []byte) (Frame, int, error) {
	r := reader{rest: b}
	f := Frame{Type: r.kind("type")}
	switch f.Type {
	case api.Pad, api.Ping:
	case api.Stream, api.Last:
		f.Stream = r.number("stream")
		f.Offset = r.number("offset")
		f.Bytes = r.bytes("bytes", r.number("length"))
		f.End = f.Offset + len(f.Bytes)
	case api.Reset:
		f.Stream = r.number("stream")
		f.End = r.number("final size")
	case api.Close:
		r.number("code") // nobody is told of it, but without it there is no frame
	case api.Prove:
		f.Proof = r.number("proof")
	default:
		r.unknown("type", f.Type)
	}
	if r.err != nil {
		return Frame{}, 0, &Within{Part: "frame", Cause: r.err}
	}
	return f, len(b) - len(r.rest), nil
}
