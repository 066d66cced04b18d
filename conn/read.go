package conn

import (
	"cistern/api"
	"cistern/stream"
)

// Read takes the next bytes of a stream that there may be, at most so many, and tells what is sent.
func (c *Conn) Read(id int, most int) (api.Got, []api.Sent) {
	if d, done := c.done[id]; done {
		return d.Read(), nil
	}
	s := c.stream(id)
	got := s.Read(most)
	done := got.End || got.Reset
	if done {
		c.finish(id, s.Done())
	}
	var sent []api.Sent
	if s.RaiseCredit() {
		sent = append(sent, c.tell(api.NewPiece, id, s.Credit())...)
	}
	if c.credit.Follow(c.bytesRead()) {
		sent = append(sent, c.tell(api.NewData, c.credit.Bytes())...)
	}
	if done && c.raiseLimit() {
		sent = append(sent, c.tell(api.NewStreams, c.limit)...)
	}
	return got, sent
}

// finish keeps of a stream only what still counts when it is done.
func (c *Conn) finish(id int, d stream.Done) {
	delete(c.streams, id)
	c.done[id] = d
	c.past += d.Final()
}

// raiseLimit lets there be one stream more, and tells whether there may be.
func (c *Conn) raiseLimit() bool {
	if c.limit == api.MaxNumber {
		return false
	}
	c.limit++
	return true
}
