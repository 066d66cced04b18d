// Package cistern: streams that come in pieces, from clients who may lie: see DOC.md.
package cistern

import (
	"cmp"

	"cistern/api"
	"cistern/bounds"
	"cistern/conn"
	"cistern/wire"
)

// PutNumber writes a number (P3).
func PutNumber(n int) ([]byte, api.Errno) {
	if e := bounds.Number(n); e != api.OK {
		return nil, e
	}
	return wire.AppendNumber(nil, n), api.OK
}

// GetNumber reads a number at the front, and tells how many bytes it has (P3).
func GetNumber(b []byte) (int, int, api.Errno) {
	n, size, err := wire.ReadNumber(b)
	if wire.IsNone(err) {
		return 0, 0, api.ErrArg
	}
	return n, size, api.OK
}

// Token makes a token (P3).
func Token(c api.Config, address int, time int) ([]byte, api.Errno) {
	// cmp.Or answers the first that is not OK: the order in which the promise names them.
	if e := cmp.Or(bounds.Config(c), bounds.Address(address), bounds.Time(time)); e != api.OK {
		return nil, e
	}
	return wire.Token(c.Key, address, time), api.OK
}

// Proof makes a proof (P3).
func Proof(c api.Config, address int, cid int) (int, api.Errno) {
	if e := cmp.Or(bounds.Config(c), bounds.Address(address), bounds.Number(cid)); e != api.OK {
		return 0, e
	}
	return wire.Proof(c.Key, address, cid), api.OK
}

// Server has connections.
type Server struct {
	config  api.Config
	clock   int
	conns   map[int]*conn.Conn // by their cids
	waiting []*conn.Conn       // to be accepted, in this order; all of them are in conns
}

// New makes a server (P4).
func New(c api.Config) (*Server, api.Errno) {
	if e := bounds.Config(c); e != api.OK {
		return nil, e
	}
	return &Server{config: c, conns: map[int]*conn.Conn{}}, api.OK
}

// Receive deals with a datagram, and tells what is sent (P4).
func (s *Server) Receive(address int, b []byte) []api.Sent {
	d, err := wire.ReadDatagram(b)
	if wire.IsNone(err) || bounds.Address(address) != api.OK {
		return nil
	}
	if d.Kind == api.Hello {
		return s.hello(address, d)
	}
	return s.data(address, d)
}

// Clock tells the time (P4).
func (s *Server) Clock(now int) api.Errno {
	if now < s.clock || now > api.MaxClock {
		return api.ErrArg
	}
	s.clock = now
	for _, c := range s.conns {
		if c.Idle(now) {
			s.drop(c)
		}
	}
	return api.OK
}

// Accept tells the next connection that waits (P5).
func (s *Server) Accept() (int, api.Errno) {
	if len(s.waiting) == 0 {
		return 0, api.ErrWait
	}
	first := s.waiting[0]
	s.waitNoMore(first)
	return first.Cid(), api.OK
}

// Read reads from a stream, and tells what is sent (P6).
func (s *Server) Read(cid int, stream int, most int) (api.Got, []api.Sent, api.Errno) {
	c := s.conns[cid]
	if c == nil || !c.Proven() {
		return api.Got{}, nil, api.ErrNone
	}
	if !c.Has(stream) || most < 0 {
		return api.Got{}, nil, api.ErrArg
	}
	got, sent := c.Read(stream, most)
	return got, sent, api.OK
}

// Close ends a connection, and tells what is sent (P7).
func (s *Server) Close(cid int, code int) ([]api.Sent, api.Errno) {
	c := s.conns[cid]
	if c == nil {
		return nil, api.ErrNone
	}
	if e := bounds.Number(code); e != api.OK {
		return nil, e
	}
	s.drop(c)
	return c.Closed(code), api.OK
}

// Look tells how a connection stands (P5).
func (s *Server) Look(cid int) (api.Look, api.Errno) {
	c := s.conns[cid]
	if c == nil {
		return api.Look{}, api.ErrNone
	}
	return c.Look(), api.OK
}

// Memory tells what all connections cost (P4).
func (s *Server) Memory() int { return len(s.conns) * s.cost() }
