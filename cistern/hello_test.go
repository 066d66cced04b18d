package cistern_test

import (
	"bytes"
	"math"
	"testing"

	"cistern/api"
	"cistern/cistern"
)

func TestP4TheDocumentsExample(t *testing.T) {
	s := start(t, config())
	s.receives(7, []byte{1, 5, 0})
	s.looks(5, api.Look{GotBytes: 3, Credit: 16, Limit: 2})
	s.receives(8, []byte{1, 6, 0})
	s.receives(8, []byte{1, 6, 0, 0}, api.Sent{To: 8, Bytes: append([]byte{3, 6, 9}, tokenOf(s.c, 8, 5)...)})
	s.absent(6)
	s.memory(64 + 16 + 2*32)
}

func TestP4NewAtTheBoundsOfConfigs(t *testing.T) {
	for _, f := range configFields() {
		for _, v := range []int{f.least, f.greatest} {
			c := roomy(f)
			*f.of(&c) = v
			if f.name == "Window" && v == 4096 {
				c.Piece = 4096
			}
			s := start(t, c)
			s.memory(0)
			s.accepts()
			s.absent(0, 5)
		}
	}
}

func TestP4NewBeyondTheBoundsOfConfigs(t *testing.T) {
	for _, f := range configFields() {
		for _, v := range []int{f.least - 1, f.greatest + 1, math.MinInt, math.MaxInt} {
			c := roomy(f)
			*f.of(&c) = v
			if s, e := cistern.New(c); s != nil || e != api.ErrConfig {
				t.Errorf("New(%+v) = %v, %d, want ErrConfig alone", c, s, e)
			}
		}
	}
	c := config()
	c.Piece = c.Window + 1
	if s, e := cistern.New(c); s != nil || e != api.ErrConfig {
		t.Errorf("New(%+v) = %v, %d, want ErrConfig alone", c, s, e)
	}
}

func TestP4ServerWithoutConnections(t *testing.T) {
	s := start(t, config())
	s.memory(0)
	s.accepts()
	s.absent(0, 1, 5, -1, 1073741823, math.MaxInt, math.MinInt)
	s.clock(0, api.OK)
	s.clock(1000000000, api.OK)
	s.memory(0)
}

func TestP2ServersHaveNothingToDoWithOneAnother(t *testing.T) {
	a, b := start(t, config()), start(t, config())
	a.opens(1, 5)
	a.clock(7, api.OK)
	a.receives(1, data(5, 3, piece(0, 0, "abc")))
	b.absent(5)
	b.memory(0)
	b.accepts()
	b.clock(2, api.OK) // its clock is its own, too
	b.receives(9, hello(5, nil, pads(20)), welcome(b.c, 9, 5))
	b.clock(100, api.OK)
	b.absent(5)
	a.buffers(5, 3)
	a.accepts(5)
}

// Row 1: there is a connection with this cid.
func TestP4HelloToAConnectionThatIsThere(t *testing.T) {
	s := start(t, config())
	s.opensUnproven(1, 5)
	s.looks(5, api.Look{GotBytes: 23, SentBytes: 10, Credit: 16, Limit: 2})
	// another address: nothing, whatever stands behind the cid
	s.receives(2, hello(5, nil, pads(30)))
	s.receives(2, hello(5, tokenOf(s.c, 2, 100), pads(30)))
	s.looks(5, api.Look{GotBytes: 23, SentBytes: 10, Credit: 16, Limit: 2})
	// its own address: frames do not count, nor does a token, right or wrong
	s.receives(1, hello(5, nil, prove(proofOf(s.c, 1, 5))), welcome(s.c, 1, 5))
	s.receives(1, hello(5, nil, []byte{255}), welcome(s.c, 1, 5))
	s.receives(1, hello(5, nil, shut(0)), welcome(s.c, 1, 5))
	s.receives(1, hello(5, nil, piece(0, 0, "abc")), welcome(s.c, 1, 5))
	s.receives(1, hello(5, tokenOf(s.c, 1, 100)), welcome(s.c, 1, 5))
	s.receives(1, hello(5, []byte("wrong")), welcome(s.c, 1, 5))
	s.looks(5, api.Look{GotBytes: 23 + 8 + 4 + 5 + 10 + 12 + 8, SentBytes: 70, Credit: 16, Limit: 2})
	s.accepts()
	// once it is proven, there is no Welcome
	s.receives(1, data(5, 0, prove(proofOf(s.c, 1, 5))))
	s.receives(1, hello(5, nil))
	s.looks(5, api.Look{Proven: true, GotBytes: 70 + 8 + 3, SentBytes: 70, Credit: 16, Limit: 2})
	s.accepts(5)
	s.memory(144)
}

func TestP4HelloIsHeard(t *testing.T) {
	s := start(t, config())
	s.opensUnproven(1, 5)
	s.clock(9, api.OK)
	s.receives(2, hello(5, nil)) // another address is not heard
	s.receives(1, hello(5, nil), welcome(s.c, 1, 5))
	s.clock(18, api.OK)
	s.there(5)
	s.receives(2, hello(5, nil))
	s.clock(19, api.OK)
	s.absent(5)
}

// A number in more bytes than need be is the same number; the server writes it in as few as may be.
func TestP4CidsInMoreBytesThanNeedBe(t *testing.T) {
	s := start(t, config())
	s.receives(1, []byte{1, 64, 5, 128, 0, 0, 0, 0, 0}, welcome(s.c, 1, 5))
	s.receives(1, []byte{1, 128, 0, 0, 5, 0}, welcome(s.c, 1, 5))
	s.looks(5, api.Look{GotBytes: 15, SentBytes: 20, Credit: 16, Limit: 2})
	s.receives(2, []byte{1, 128, 0, 0, 6, 0}, retry(s.c, 2, 6, 5))
	s.memory(144)
}

// Row 2: a token that is none for this address and time makes nothing.
func TestP4TokensThatDoNotHold(t *testing.T) {
	c := keyed(4000000000)
	good := tokenOf(c, 1, 105)
	other := keyed(4000000001)
	s := start(t, c)
	s.clock(100, api.OK)
	for _, token := range [][]byte{
		tokenOf(c, 2, 105),
		tokenOf(c, 0, 105),
		tokenOf(c, 1, 99),
		tokenOf(c, 1, 0),
		tokenOf(other, 1, 105),
		good[:8], good[1:], good[:1], {0},
		append(bytes.Clone(good), 0),
		append([]byte{1}, good...),
		append(bytes.Clone(good), good...),
	} {
		s.receives(1, hello(5, token, pads(30)))
	}
	for i := range good {
		for _, bit := range []byte{1, 128} {
			wrong := bytes.Clone(good)
			wrong[i] ^= bit
			s.receives(1, hello(5, wrong, pads(30)))
		}
	}
	s.absent(5)
	s.memory(0)
	s.receives(1, hello(5, good), welcome(c, 1, 5))
}

func TestP4TokensThatHold(t *testing.T) {
	for _, x := range []struct{ key, address, clock, time int }{
		{0, 0, 0, 0},
		{0, 255, 0, 4294967295},
		{4294967295, 1, 100, 100},
		{5, 1, 100, 101},
		{5, 1, 1000000000, 1000000000},
		{5, 1, 256, 256 * 256},
	} {
		c := keyed(x.key)
		c.Load = 0 // a token is looked at ahead of the load
		s := start(t, c)
		s.clock(x.clock, api.OK)
		s.receives(x.address, hello(5, tokenOf(c, x.address, x.time)), welcome(c, x.address, 5))
		s.looks(5, api.Look{Proven: true, GotBytes: 12, SentBytes: len(welcome(c, 0, 5).Bytes), Credit: 16, Limit: 2})
		s.accepts(5)
	}
}

// A retry's token makes a connection, for as long as it lives.
func TestP4TokenOfARetry(t *testing.T) {
	c := config()
	c.Load = 0
	s := start(t, c)
	s.clock(100, api.OK)
	l := s.Receive(3, hello(5, nil, pads(9)))
	if !sameSent(l, []api.Sent{retry(c, 3, 5, 105)}) {
		t.Fatalf("sent %x", l)
	}
	token := bytes.Clone(l[0].Bytes[3:])
	s.receives(4, hello(5, token))
	s.clock(105, api.OK)
	s.receives(3, hello(5, token), welcome(c, 3, 5))
	s.receives(3, hello(6, token), welcome(c, 3, 6)) // of a cid it says nothing
	s.clock(106, api.OK)
	s.receives(3, data(6, 0, shut(0)))
	s.receives(3, hello(6, token))
	s.absent(6)
}

// Row 3: as many as Load are borne that are not proven; those that are do not count.
func TestP4Load(t *testing.T) {
	for _, load := range []int{0, 1, 2, 6} {
		c := config()
		c.Load, c.Conns, c.Memory = load, 8, 100000
		s := start(t, c)
		s.opens(9, 63)
		for cid := range load {
			s.opensUnproven(1, cid)
		}
		s.receives(1, hello(50, nil, pads(20)), retry(c, 1, 50, 5))
		s.absent(50)
		s.memory(144 * (load + 1))
		if load == 0 {
			continue
		}
		// one of them is proven: there is room for one more
		s.receives(1, data(0, 0, prove(proofOf(c, 1, 0))))
		s.opensUnproven(1, 50)
		s.receives(1, hello(51, nil, pads(20)), retry(c, 1, 51, 5))
		// one of them is gone: again
		s.receives(1, data(50, 0, shut(0)))
		s.opensUnproven(1, 51)
	}
}

// As many as there may be at all, and none of them proven.
func TestP4GreatestLoad(t *testing.T) {
	c := config()
	c.Load, c.Conns, c.Memory = 8, 8, 100000
	s := start(t, c)
	for cid := range 8 {
		s.opensUnproven(1, cid)
	}
	s.receives(1, hello(50, nil, pads(20)), retry(c, 1, 50, 5))
}

// A retry has 11 bytes and the cid's: the datagram must have a third of that.
func TestP4RetriesAreNoMoreThanThreeTimesWhatCame(t *testing.T) {
	c := config()
	c.Load = 0
	for _, x := range []struct {
		cid, pads int
		want      bool
	}{
		{5, 0, false},         // 12 of 9
		{5, 1, true},          // 12 of 12
		{64, 0, false},        // 13 of 12
		{64, 1, true},         // 13 of 15
		{16383, 0, false},     // 13 of 12
		{16384, 0, true},      // 15 of 18
		{1073741823, 0, true}, // 15 of 18
	} {
		s := start(t, c)
		b := hello(x.cid, nil, pads(x.pads))
		if x.want {
			s.receives(255, b, retry(c, 255, x.cid, 5))
		} else {
			s.receives(255, b)
		}
		s.absent(x.cid)
		s.memory(0)
	}
	s := start(t, c)
	s.clock(1000000000, api.OK)
	s.receives(0, hello(5, nil, pads(1)), retry(c, 0, 5, 1000000005))
}

// A retry is sent where there is no room for a connection, too: that is looked at when one is made.
func TestP4RetriesWithoutRoom(t *testing.T) {
	c := config()
	c.Load, c.Memory = 0, 0
	s := start(t, c)
	s.receives(1, hello(5, nil, pads(9)), retry(c, 1, 5, 5))
	s.receives(1, hello(5, tokenOf(c, 1, 5)))
	s.absent(5)
}

// Row 4: Conns and Memory at their edges, for those that are proven and for those that are not.
func TestP4RoomForConnections(t *testing.T) {
	for _, x := range []struct{ conns, memory, want int }{
		{1, 100000, 1},
		{2, 100000, 2},
		{8, 100000, 8},
		{8, 0, 0},
		{8, 143, 0},
		{8, 144, 1},
		{8, 287, 1},
		{8, 288, 2},
		{8, 1151, 7},
		{8, 1152, 8},
		{2, 1152, 2},
	} {
		for _, proven := range []bool{false, true} {
			c := config()
			c.Conns, c.Memory, c.Load = x.conns, x.memory, 8
			s := start(t, c)
			var token []byte
			if proven {
				token = tokenOf(c, 1, 5)
			}
			for cid := range 8 {
				if cid < x.want {
					s.receives(1, hello(cid, token, pads(20)), welcome(c, 1, cid))
					s.there(cid)
				} else {
					s.receives(1, hello(cid, token, pads(20)))
					s.absent(cid)
				}
			}
			s.memory(144 * x.want)
		}
	}
}

func TestP4WhatConnectionsCost(t *testing.T) {
	for _, x := range []struct{ window, streams, want int }{
		{8, 1, 64 + 8 + 32},
		{4096, 1, 64 + 4096 + 32},
		{8, 8, 64 + 8 + 256},
		{4096, 8, 64 + 4096 + 256},
	} {
		c := config()
		c.Window, c.Streams, c.Memory = x.window, x.streams, x.want
		s := start(t, c)
		s.opens(1, 5)
		s.memory(x.want)
		s.receives(1, data(5, 0, piece(0, 0, "abc"))) // what came of streams costs no more
		s.memory(x.want)
		c.Memory--
		s = start(t, c)
		s.receives(1, hello(5, tokenOf(c, 1, 5)))
		s.memory(0)
	}
}

// A Welcome has 10 bytes, and 3 times as many may be sent as came: it may have to wait for another hello.
func TestP4WelcomesThatMayNotBeSentYet(t *testing.T) {
	s := start(t, config())
	s.receives(1, hello(5, nil)) // 10 of 9
	s.looks(5, api.Look{GotBytes: 3, Credit: 16, Limit: 2})
	s.receives(1, hello(5, nil), welcome(s.c, 1, 5)) // 10 of 18
	s.receives(1, hello(5, nil), welcome(s.c, 1, 5)) // 20 of 27
	s.receives(1, hello(5, nil), welcome(s.c, 1, 5)) // 30 of 36
	s.receives(1, hello(5, nil), welcome(s.c, 1, 5)) // 40 of 45
	s.receives(1, hello(5, nil), welcome(s.c, 1, 5)) // 50 of 54
	s.receives(1, hello(5, nil), welcome(s.c, 1, 5)) // 60 of 63
	s.receives(1, hello(5, nil), welcome(s.c, 1, 5)) // 70 of 72
	s.receives(1, hello(5, nil), welcome(s.c, 1, 5)) // 80 of 81
	s.receives(1, hello(5, nil), welcome(s.c, 1, 5)) // 90 of 90
	s.receives(1, hello(5, nil))                     // 100 of 99
	s.looks(5, api.Look{GotBytes: 33, SentBytes: 90, Credit: 16, Limit: 2})
}

// To one that is proven it may be sent at once, however little came.
func TestP4WelcomesToTheProven(t *testing.T) {
	c := config()
	c.Window, c.Piece, c.Streams, c.Memory = 4096, 64, 8, 100000
	s := start(t, c)
	s.receives(200, hello(1073741823, tokenOf(c, 200, 0)), welcome(c, 200, 1073741823))
	s.looks(1073741823, api.Look{Proven: true, GotBytes: 15, SentBytes: 15, Credit: 4096, Limit: 8})
}

func TestP4FramesOfTheHelloThatMakesAConnection(t *testing.T) {
	s := start(t, config())
	s.receives(1, hello(5, tokenOf(s.c, 1, 5), piece(0, 0, "abc"), piece(1, 4, "z")), welcome(s.c, 1, 5))
	s.looks(5, api.Look{Proven: true, GotBytes: 24, SentBytes: 10, Credit: 16, Limit: 2, Buffered: 4})
	// a breach: its news goes out behind the Welcome, and it does not wait
	s.receives(2, hello(6, tokenOf(s.c, 2, 5), []byte{2}), welcome(s.c, 2, 6), closed(2, 6, 7))
	s.absent(6)
	s.receives(2, hello(7, tokenOf(s.c, 2, 5), shut(9), []byte{2}), welcome(s.c, 2, 7))
	s.absent(7)
	s.accepts(5)
	s.memory(144)
	// one that is not proven proves itself
	s.receives(3, hello(8, nil, prove(proofOf(s.c, 3, 8))), welcome(s.c, 3, 8))
	s.looks(8, api.Look{Proven: true, GotBytes: 8, SentBytes: 10, Credit: 16, Limit: 2})
	s.accepts(8)
}

// A news that is too much for one who is not proven is not sent, but the connection is gone.
func TestP4BreachesOfTheUnproven(t *testing.T) {
	s := start(t, config())
	s.receives(1, hello(5, nil, []byte{255}), welcome(s.c, 1, 5)) // 14 of 12
	s.absent(5)
	s.receives(1, hello(5, nil, []byte{0, 255}), welcome(s.c, 1, 5), closed(1, 5, 7)) // 14 of 15
	s.absent(5)
	s.receives(1, hello(5, nil))                          // 10 of 9
	s.receives(1, data(5, 0, prove(0)), closed(1, 5, 10)) // 4 of 24
	s.absent(5)
	s.memory(0)
	// at the edge: a cid of two bytes makes the Welcome and the news one byte longer each
	s.receives(1, hello(64, nil, []byte{255}), welcome(s.c, 1, 64)) // 16 of 15
	s.absent(64)
	c := config()
	c.Window = 64 // makes the Welcome one byte longer
	s = start(t, c)
	s.receives(1, hello(5, nil, []byte{0, 255}), welcome(c, 1, 5), closed(1, 5, 7)) // 15 of 15
	s.absent(5)
}
