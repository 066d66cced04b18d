package cistern

import (
	"slices"

	"cistern/api"
	"cistern/conn"
	"cistern/wire"
)

// hello deals with a hello.
func (s *Server) hello(address int, d wire.Datagram) []api.Sent {
	switch {
	case s.conns[d.Cid] != nil:
		return s.helloAgain(s.conns[d.Cid], address, d)
	case len(d.Token) > 0:
		if !wire.TokenHolds(s.config.Key, address, s.clock, d.Token) {
			return nil
		}
		return s.open(address, d, true)
	case s.unproven() >= s.config.Load:
		return s.retry(address, d)
	default:
		return s.open(address, d, false)
	}
}

// helloAgain deals with a hello to a connection that is there. A client whose Welcome was lost, or could not be sent yet, gets one so.
func (s *Server) helloAgain(c *conn.Conn, address int, d wire.Datagram) []api.Sent {
	if c.Address() != address {
		return nil
	}
	c.Get(d.Size)
	c.Hear(s.clock)
	if c.Proven() {
		return nil
	}
	return c.Welcome()
}

// retry sends a token, if that is no more than three times what came: the address may be a lie.
func (s *Server) retry(address int, d wire.Datagram) []api.Sent {
	b := wire.Retry(d.Cid, wire.Token(s.config.Key, address, s.clock+s.config.Life))
	if len(b) > 3*d.Size {
		return nil
	}
	return []api.Sent{{To: address, Bytes: b}}
}

// open makes a connection, if there is room for one.
func (s *Server) open(address int, d wire.Datagram, proven bool) []api.Sent {
	if len(s.conns) >= s.config.Conns || s.Memory()+s.cost() > s.config.Memory {
		return nil
	}
	c := conn.New(s.config, d.Cid, address, proven)
	s.conns[d.Cid] = c
	c.Get(d.Size)
	c.Hear(s.clock)
	sent := c.Welcome()
	if proven {
		s.wait(c)
	}
	return append(sent, s.deal(c, d.Frames)...)
}

// data deals with data.
func (s *Server) data(address int, d wire.Datagram) []api.Sent {
	c := s.conns[d.Cid]
	if c == nil || c.Address() != address {
		return nil
	}
	c.Get(d.Size)
	if !c.Number(d.Packet) {
		return nil
	}
	c.Hear(s.clock)
	return s.deal(c, d.Frames)
}

// deal deals with a connection's frames, by which it may come to wait, or be gone.
func (s *Server) deal(c *conn.Conn, frames []byte) []api.Sent {
	before := c.Proven()
	sent, gone := c.Deal(frames)
	if gone {
		s.drop(c)
	} else if c.Proven() && !before {
		s.wait(c)
	}
	return sent
}

// drop leaves nothing of a connection.
func (s *Server) drop(c *conn.Conn) {
	delete(s.conns, c.Cid())
	s.waitNoMore(c)
}

func (s *Server) wait(c *conn.Conn) { s.waiting = append(s.waiting, c) }

func (s *Server) waitNoMore(c *conn.Conn) {
	s.waiting = slices.DeleteFunc(s.waiting, func(other *conn.Conn) bool { return other == c })
}

// unproven tells how many connections are not proven.
func (s *Server) unproven() int {
	count := 0
	for _, c := range s.conns {
		if !c.Proven() {
			count++
		}
	}
	return count
}

// cost is what one connection costs.
func (s *Server) cost() int {
	return api.ConnCost + s.config.Window + api.StreamCost*s.config.Streams
}
