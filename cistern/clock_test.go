package cistern_test

import (
	"math"
	"testing"

	"cistern/api"
)

func TestP4ClockBackAndBeyond(t *testing.T) {
	s := start(t, config())
	s.clock(-1, api.ErrArg)
	s.clock(math.MinInt, api.ErrArg)
	s.clock(0, api.OK)
	s.clock(7, api.OK)
	s.clock(7, api.OK)
	s.clock(6, api.ErrArg)
	s.clock(0, api.ErrArg)
	s.clock(1000000001, api.ErrArg)
	s.clock(math.MaxInt, api.ErrArg)
	s.clock(7, api.OK) // what was an error changed nothing
	s.clock(1000000000, api.OK)
	s.clock(1000000000, api.OK)
	s.clock(1000000001, api.ErrArg)
	s.clock(999999999, api.ErrArg)
}

// A clock that is no clock makes nobody go.
func TestP1ClockWithAnErrorChangesNothing(t *testing.T) {
	c := config()
	c.Idle = 1
	s := start(t, c)
	s.opens(1, 5)
	s.clock(1000000001, api.ErrArg)
	s.clock(-1, api.ErrArg)
	s.there(5)
	s.accepts(5)
}

func TestP4IdleConnectionsAreGone(t *testing.T) {
	for _, idle := range []int{2, 10, 1000} {
		c := config()
		c.Idle, c.Load = idle, 2
		s := start(t, c)
		s.clock(50, api.OK)
		s.opens(1, 5)
		s.opensUnproven(2, 6)
		s.clock(50, api.OK)
		s.clock(50+idle-1, api.OK)
		s.there(5, 6)
		s.memory(288)
		s.receives(1, data(5, 0))
		s.clock(50+idle, api.OK)
		s.there(5)
		s.absent(6)
		s.memory(144)
		s.clock(50+2*idle-2, api.OK)
		s.there(5)
		s.clock(50+2*idle-1, api.OK)
		s.absent(5)
		s.memory(0)
		s.accepts()
		s.receives(1, data(5, 1))
		s.opens(1, 5) // there is room again
		s.clock(1000000000, api.OK)
		s.absent(5)
		s.memory(0)
	}
}

func TestP4IdleAfterOneTick(t *testing.T) {
	c := config()
	c.Idle = 1
	s := start(t, c)
	s.opens(1, 5)
	s.clock(0, api.OK)
	s.there(5)
	s.clock(1, api.OK)
	s.absent(5)
	s.memory(0)
}

func TestP4AllThatAreIdleGoAtOnce(t *testing.T) {
	c := config()
	c.Conns, c.Memory = 8, 100000
	s := start(t, c)
	for cid := range 8 {
		s.clock(cid, api.OK)
		s.opens(1, cid)
	}
	s.memory(8 * 144)
	s.clock(14, api.OK)
	s.absent(0, 1, 2, 3, 4)
	s.there(5, 6, 7)
	s.memory(3 * 144)
	s.accepts(5, 6, 7)
}

// MEMORY behind each thing that makes a connection, or ends one.
func TestP4Memory(t *testing.T) {
	c := config()
	c.Conns, c.Load = 4, 4
	s := start(t, c)
	s.memory(0)
	s.opens(1, 5)
	s.memory(144)
	s.opensUnproven(1, 6)
	s.memory(288)
	s.receives(1, hello(6, nil), welcome(c, 1, 6))
	s.memory(288)
	s.receives(1, data(6, 0, prove(proofOf(c, 1, 6))))
	s.memory(288)
	s.accepts(5, 6)
	s.memory(288)
	s.receives(1, data(5, 0, []byte{2}), closed(1, 5, 7))
	s.memory(144)
	s.receives(1, data(6, 1, shut(0)))
	s.memory(0)
	s.receives(1, hello(7, tokenOf(c, 1, 0), shut(0)), welcome(c, 1, 7))
	s.memory(0)
	s.opens(1, 8)
	s.clock(10, api.OK)
	s.memory(0)
}

// Connections wait from when they are proven, not from when they are made.
func TestP5AcceptInOrder(t *testing.T) {
	c := config()
	c.Conns, c.Load, c.Memory = 8, 8, 100000
	s := start(t, c)
	s.accepts()
	s.opensUnproven(1, 9)
	s.opensUnproven(1, 3)
	s.opens(1, 7)
	s.receives(1, data(3, 0, prove(proofOf(c, 1, 3))))
	s.opens(1, 1)
	s.receives(1, data(9, 0, prove(proofOf(c, 1, 9))))
	s.accepts(7, 3, 1, 9)
	s.accepts()
	// who was accepted does not wait again
	s.receives(1, hello(7, nil))
	s.receives(1, data(3, 1, prove(proofOf(c, 1, 3))))
	s.accepts()
	s.opens(1, 4)
	s.accepts(4)
	s.there(1, 3, 4, 7, 9)
	// cid 0 is one like any other
	s.opens(1, 0)
	s.accepts(0)
}

func TestP5ConnectionsThatAreGoneDoNotWait(t *testing.T) {
	c := config()
	c.Conns, c.Load, c.Memory = 8, 8, 100000
	s := start(t, c)
	for cid := range 5 {
		s.opens(1, cid)
	}
	s.receives(1, data(0, 0, shut(0)))
	s.receives(1, data(2, 0, []byte{2}), closed(1, 2, 7))
	s.receives(1, data(4, 0, shut(0)))
	s.accepts(1, 3)
	s.clock(5, api.OK)
	s.opens(1, 6)
	s.clock(10, api.OK)
	s.absent(1, 3)
	s.accepts(6)
}

// One that is made anew with the cid of one that waited is another one.
func TestP5MadeAnewWithTheSameCid(t *testing.T) {
	c := config()
	c.Conns, c.Load, c.Memory = 8, 8, 100000
	s := start(t, c)
	s.opens(1, 5)
	s.opens(1, 6)
	s.receives(1, data(5, 0, shut(0)))
	s.opensUnproven(2, 5)
	s.accepts(6) // it is not proven
	s.receives(2, data(5, 0, prove(proofOf(c, 2, 5))))
	s.accepts(5)
	s.opens(1, 7)
	s.opens(1, 8)
	s.receives(1, data(7, 0, shut(0)))
	s.opens(2, 7)
	s.accepts(8, 7) // behind all others
	// by the clock
	s.opens(1, 1)
	s.clock(10, api.OK)
	s.opensUnproven(1, 1)
	s.accepts()
}

func TestP5LookAtEachField(t *testing.T) {
	c := config()
	c.Window, c.Piece, c.Streams, c.Load, c.Memory = 100, 50, 3, 2, 100000
	s := start(t, c)
	s.receives(1, hello(5, nil))
	s.looks(5, api.Look{GotBytes: 3, Credit: 100, Limit: 3})
	s.receives(1, hello(5, nil), welcome(c, 1, 5))
	s.looks(5, api.Look{GotBytes: 6, SentBytes: 11, Credit: 100, Limit: 3})
	s.receives(1, data(5, 0, piece(0, 0, "abc"), piece(2, 9, "yz")))
	s.looks(5, api.Look{GotBytes: 6 + 16, SentBytes: 11, Credit: 100, Limit: 3, Buffered: 5})
	s.receives(1, data(5, 0, piece(0, 0, "abc"), piece(2, 9, "yz"))) // the same number
	s.looks(5, api.Look{GotBytes: 6 + 32, SentBytes: 11, Credit: 100, Limit: 3, Buffered: 5})
	s.receives(1, data(5, 1, prove(proofOf(c, 1, 5))))
	s.looks(5, api.Look{Proven: true, GotBytes: 6 + 40, SentBytes: 11, Credit: 100, Limit: 3, Buffered: 5})
	s.accepts(5)
	s.looks(5, api.Look{Proven: true, GotBytes: 6 + 40, SentBytes: 11, Credit: 100, Limit: 3, Buffered: 5})
	s.opensUnproven(2, 6) // another one has numbers of its own
	s.looks(6, api.Look{GotBytes: 23, SentBytes: 11, Credit: 100, Limit: 3})
	s.looks(5, api.Look{Proven: true, GotBytes: 6 + 40, SentBytes: 11, Credit: 100, Limit: 3, Buffered: 5})
	s.absent(0, 4, 7, -5, 5+1<<32, math.MaxInt, math.MinInt)
}
