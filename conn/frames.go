package conn

import (
	"cistern/api"
	"cistern/stream"
	"cistern/wire"
)

// Deal deals with frames. It tells what is sent, and whether the connection is gone.
func (c *Conn) Deal(b []byte) (sent []api.Sent, gone bool) {
frames:
	for len(b) > 0 {
		f, size, err := wire.ReadFrame(b)
		b = b[size:]
		switch {
		case wire.IsNone(err):
			sent, gone = c.breach(api.BadFrame), true
			break frames
		case f.Type == api.Close:
			gone = true
			break frames
		default:
			if code := c.dealOne(f); code != 0 {
				sent, gone = c.breach(code), true
				break frames
			}
		}
	}
	return sent, gone
}

// dealOne deals with a frame by which the connection is not closed. It answers the code of a breach, or 0.
func (c *Conn) dealOne(f wire.Frame) int {
	switch f.Type {
	case api.Prove:
		return c.prove(f.Proof)
	case api.Stream, api.Last, api.Reset:
		return c.take(f)
	default:
		return 0
	}
}

func (c *Conn) breach(code int) []api.Sent {
	return c.send(wire.News(c.cid, api.Closed, code))
}

func (c *Conn) prove(proof int) int {
	if proof != c.proof() {
		return api.BadProof
	}
	c.proven = true
	return 0
}

// take hands a frame to its stream.
func (c *Conn) take(f wire.Frame) int {
	if f.Stream >= c.limit {
		return api.BadStream
	}
	s := c.stream(f.Stream)
	before := s.Highest()
	code := s.Take(f, c.credit-c.highest, c.config.Gaps)
	c.highest += s.Highest() - before
	return code
}

// stream finds a stream below the limit; one of which nothing came is made only now, so that it costs nothing till then.
func (c *Conn) stream(id int) *stream.Stream {
	s := c.streams[id]
	if s == nil {
		s = stream.New(c.config.Piece)
		c.streams[id] = s
	}
	return s
}
