// Package conn: what is known of one connection.
package conn

import (
	"cistern/api"
	"cistern/credit"
	"cistern/runs"
	"cistern/stream"
	"cistern/wire"
)

// Conn is a connection.
type Conn struct {
	config    api.Config
	cid       int
	address   int
	proven    bool
	got       int // bytes
	sent      int // bytes
	heard     int // when, last
	watermark int
	packets   runs.Runs[struct{}] // the packets' numbers that came, from the watermark on
	credit    credit.Credit       // of all streams together
	limit     int                 // how many streams there may be
	streams   map[int]*stream.Stream
	done      map[int]stream.Done // the streams that are done; they are not in streams
	past      int                 // the final sizes of those that are done, together
}

// New makes a connection of which nothing was heard yet.
func New(config api.Config, cid int, address int, proven bool) *Conn {
	return &Conn{
		config:  config,
		cid:     cid,
		address: address,
		proven:  proven,
		credit:  credit.New(config.Window),
		limit:   config.Streams,
		streams: map[int]*stream.Stream{},
		done:    map[int]stream.Done{},
	}
}

// Cid tells which connection it is.
func (c *Conn) Cid() int { return c.cid }

// Address tells whose connection it is.
func (c *Conn) Address() int { return c.address }

// Proven tells whether the address is proven.
func (c *Conn) Proven() bool { return c.proven }

// Get counts bytes that came.
func (c *Conn) Get(size int) { c.got += size }

// Hear notes that the connection was heard.
func (c *Conn) Hear(now int) { c.heard = now }

// Idle tells whether the connection was heard too long ago.
func (c *Conn) Idle(now int) bool { return now-c.heard >= c.config.Idle }

// Number notes that a packet's number came, and tells whether it is new.
func (c *Conn) Number(number int) bool {
	if number < c.watermark || c.packets.Covers(number, number+1) {
		return false
	}
	c.packets.Fill(number, []struct{}{{}})
	if c.packets.Count() > api.MaxRuns {
		c.watermark = c.packets.DropLowest()
	}
	return true
}

// Look tells how the connection stands.
func (c *Conn) Look() api.Look {
	return api.Look{
		Proven:    c.proven,
		GotBytes:  c.got,
		SentBytes: c.sent,
		Credit:    c.credit.Bytes(),
		Limit:     c.limit,
		Buffered:  c.sum((*stream.Stream).Buffered),
	}
}

// highest is that of all streams together.
func (c *Conn) highest() int { return c.past + c.sum((*stream.Stream).Highest) }

// bytesRead is what was read of all streams together.
func (c *Conn) bytesRead() int { return c.past + c.sum((*stream.Stream).BytesRead) }

// sum adds up a size of the streams that are not done. However many are done, there are no more of these than the config's Streams.
func (c *Conn) sum(size func(*stream.Stream) int) int {
	sum := 0
	for _, s := range c.streams {
		sum += size(s)
	}
	return sum
}

// Welcome sends a Welcome.
func (c *Conn) Welcome() []api.Sent {
	return c.tell(api.Welcome, c.proof(), c.config.Window, c.config.Piece, c.config.Streams)
}

// Closed sends word that the connection is gone.
func (c *Conn) Closed(code int) []api.Sent { return c.tell(api.Closed, code) }

func (c *Conn) proof() int { return wire.Proof(c.config.Key, c.address, c.cid) }

// tell sends news; but one who may have lied about its address gets no more than three times what came from there.
func (c *Conn) tell(kind byte, numbers ...int) []api.Sent {
	news := wire.News(c.cid, kind, numbers...)
	if !c.proven && c.sent+len(news) > 3*c.got {
		return nil
	}
	c.sent += len(news)
	return []api.Sent{{To: c.address, Bytes: news}}
}
