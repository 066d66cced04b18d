// Package cistern: streams that come in pieces, from clients who may lie: see DOC.md.
package cistern

import (
	"cmp"
	"errors"

	"cistern/api"
	"cistern/bounds"
	"cistern/wire"
)

// PutNumber writes a number (P3).
func PutNumber(n int) ([]byte, api.Errno) {
	if e := bounds.Number(n); e != api.OK {
		return nil, e
	}
	return wire.AppendNumber(nil, n), api.OK
}

// GetNumber reads a number at the front, and tells how many bytes it has (P3).
func GetNumber(b []byte) (int, int, api.Errno) {
	n, size, err := wire.ReadNumber(b)
	var none *wire.None
	if errors.As(err, &none) {
		return 0, 0, api.ErrArg
	}
	return n, size, api.OK
}

// Token makes a token (P3).
func Token(c api.Config, address int, time int) ([]byte, api.Errno) {
	// cmp.Or answers the first that is not OK: the order in which the promise names them.
	if e := cmp.Or(bounds.Config(c), bounds.Address(address), bounds.Time(time)); e != api.OK {
		return nil, e
	}
	return wire.Token(c.Key, address, time), api.OK
}

// Proof makes a proof (P3).
func Proof(c api.Config, address int, cid int) (int, api.Errno) {
	if e := cmp.Or(bounds.Config(c), bounds.Address(address), bounds.Number(cid)); e != api.OK {
		return 0, e
	}
	return wire.Proof(c.Key, address, cid), api.OK
}

// Server has connections.
type Server struct{}

// New makes a server (P4).
func New(c api.Config) (*Server, api.Errno) { return nil, api.OK }

// Receive deals with a datagram, and tells what is sent (P4).
func (s *Server) Receive(address int, b []byte) []api.Sent { return nil }

// Clock tells the time (P4).
func (s *Server) Clock(now int) api.Errno { return api.OK }

// Accept tells the next connection that waits (P5).
func (s *Server) Accept() (int, api.Errno) { return 0, api.OK }

// Read reads from a stream, and tells what is sent (P6).
func (s *Server) Read(cid int, stream int, most int) (api.Got, []api.Sent, api.Errno) {
	return api.Got{}, nil, api.OK
}

// Close ends a connection, and tells what is sent (P7).
func (s *Server) Close(cid int, code int) ([]api.Sent, api.Errno) { return nil, api.OK }

// Look tells how a connection stands (P5).
func (s *Server) Look(cid int) (api.Look, api.Errno) { return api.Look{}, api.OK }

// Memory tells what all connections cost (P4).
func (s *Server) Memory() int { return 0 }
