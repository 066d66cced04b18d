package conn

import (
	"cistern/api"
	"cistern/stream"
	"cistern/wire"
)

// Deal deals with frames. It tells what is sent, and whether the connection is gone.
func (c *Conn) Deal(b []byte) (sent []api.Sent, gone bool) {
frames:
	for len(b) > 0 {
		f, size, err := wire.ReadFrame(b)
		b = b[size:]
		switch {
		case wire.IsNone(err):
			sent, gone = c.Closed(api.BadFrame), true
			break frames
		case f.Type == api.Close:
			gone = true
			break frames
		default:
			if code := c.dealOne(f); code != 0 {
				sent, gone = c.Closed(code), true
				break frames
			}
		}
	}
	return sent, gone
}

// dealOne deals with a frame by which the connection is not closed. It answers the code of a breach, or 0.
func (c *Conn) dealOne(f wire.Frame) int {
	switch f.Type {
	case api.Prove:
		return c.prove(f.Proof)
	case api.Stream, api.Last, api.Reset:
		return c.take(f)
	default:
		return 0
	}
}

func (c *Conn) prove(proof int) int {
	if proof != c.proof() {
		return api.BadProof
	}
	c.proven = true
	return 0
}

// take hands a frame to its stream.
func (c *Conn) take(f wire.Frame) int {
	if !c.Has(f.Stream) {
		return api.BadStream
	}
	if d, done := c.done[f.Stream]; done {
		return d.Take(f)
	}
	room := c.credit.Bytes() - c.highest()
	return c.stream(f.Stream).Take(f, room, c.config.Gaps)
}

// Has tells whether there may be such a stream.
func (c *Conn) Has(id int) bool { return 0 <= id && id < c.limit }

// stream finds a stream that there may be and that is not done; it is made only now, so that it costs nothing till then.
func (c *Conn) stream(id int) *stream.Stream {
	s := c.streams[id]
	if s == nil {
		s = stream.New(c.config.Piece)
		c.streams[id] = s
	}
	return s
}
