package cistern_test

import (
	"math"
	"testing"

	"cistern/api"
)

// What is neither hello nor data up to its frames changes nothing, and nothing is sent.
func TestP4WhatIsNoDatagram(t *testing.T) {
	s := start(t, config())
	s.opensUnproven(1, 5)
	before := api.Look{GotBytes: 23, SentBytes: 10, Credit: 16, Limit: 2}
	for _, b := range []string{
		"", "\x00", "\x00\x05\x00", "\x03\x05\x00", "\x04\x05\x00", "\xff\x05\x00",
		"\x01", "\x01\x05", "\x01\x40", "\x01\x80\x00\x00", "\x01\xc0\x00\x00\x00\x00",
		"\x01\x05\x40", "\x01\x05\xff", "\x01\x05\x01", "\x01\x05\x09\x01\x02\x03\x04\x05\x06\x07\x08", "\x01\x05\xbf\xff\xff\xffa",
		"\x02", "\x02\x05", "\x02\x40", "\x02\xff\x00", "\x02\x05\x40", "\x02\x05\x80\x00\x00", "\x02\x05\xc0\x00\x00\x00",
	} {
		s.receives(1, []byte(b))
		s.looks(5, before)
	}
	s.memory(144)
	if l := s.Receive(1, nil); len(l) != 0 {
		t.Errorf("Receive of nil sent %x", l)
	}
}

func TestP4AddressesThatAreNone(t *testing.T) {
	s := start(t, config())
	s.opens(0, 5)
	s.opens(255, 6)
	for _, address := range []int{-1, 256, 512, 261, math.MaxInt, math.MinInt} {
		for cid := range 10 {
			s.receives(address, hello(cid, nil, pads(40)))
			s.receives(address, hello(cid, tokenOf(s.c, address, 100)))
			s.receives(address, data(cid, 0, piece(0, 0, "abc")))
		}
	}
	s.looks(5, api.Look{Proven: true, GotBytes: 12, SentBytes: 10, Credit: 16, Limit: 2})
	s.looks(6, api.Look{Proven: true, GotBytes: 12, SentBytes: 10, Credit: 16, Limit: 2})
}

func TestP4DataOfNobody(t *testing.T) {
	s := start(t, config())
	s.receives(1, data(5, 0, piece(0, 0, "abc")))
	s.absent(5)
	s.memory(0)
	s.opens(1, 5)
	s.receives(1, data(6, 0, []byte{255}))
	s.receives(2, data(5, 0, piece(0, 0, "abc"))) // another address: the number did not come, either
	s.receives(2, data(5, 1, []byte{255}))
	s.looks(5, api.Look{Proven: true, GotBytes: 12, SentBytes: 10, Credit: 16, Limit: 2})
	s.receives(1, data(5, 0, piece(0, 0, "abc")))
	s.looks(5, api.Look{Proven: true, GotBytes: 22, SentBytes: 10, Credit: 16, Limit: 2, Buffered: 3})
}

// flow sends a byte more in each packet, so that it is seen whether the packet's frames were dealt with.
type flow struct {
	server
	at int
}

func (f *flow) packet(number int, dealt bool) {
	f.t.Helper()
	before, _ := f.Look(5)
	b := data(5, number, piece(0, f.at, "x"))
	f.receives(1, b)
	want := before
	want.GotBytes += len(b)
	if dealt {
		f.at++
		want.Buffered++
	}
	f.looks(5, want)
}

func newFlow(t *testing.T) *flow {
	t.Helper()
	c := config()
	c.Window, c.Piece, c.Memory = 4096, 4096, 100000
	f := &flow{server: start(t, c)}
	f.opens(1, 5)
	return f
}

func TestP4NumbersThatCame(t *testing.T) {
	f := newFlow(t)
	for _, number := range []int{7, 0, 1073741823, 16384} {
		f.packet(number, true)
		f.packet(number, false)
	}
	for _, number := range []int{7, 0, 1073741823, 16384} {
		f.packet(number, false)
	}
}

// A run is as long as can be: numbers that join runs make fewer of them.
func TestP4FifthRun(t *testing.T) {
	f := newFlow(t)
	for _, number := range []int{40, 10, 30, 20} {
		f.packet(number, true)
	}
	f.packet(5, true) // the fifth run, and the lowest: it is forgotten, and 6 is the watermark
	f.packet(5, false)
	f.packet(0, false)
	f.packet(11, true) // 10 and 11 are one run
	f.packet(9, true)
	f.packet(50, true) // the fifth: 9 to 11 is forgotten, 12 is the watermark
	for number := range 12 {
		f.packet(number, false)
	}
	f.packet(12, true) // again the fifth, and forgotten
	f.packet(12, false)
	f.packet(13, true)
	f.packet(13, false)
	f.packet(20, false)
	f.packet(21, true)
	f.packet(23, true) // the fifth: 20 and 21 are forgotten, 22 is the watermark
	f.packet(19, false)
	f.packet(22, true) // joins 23
	f.packet(22, false)
	f.packet(23, false)
	f.packet(24, true)
}

func TestP4RunsThatJoin(t *testing.T) {
	f := newFlow(t)
	for _, number := range []int{1, 3, 5, 7, 2, 4, 6, 20, 22, 24} {
		f.packet(number, true)
	}
	f.packet(0, true) // four runs still: 0 to 7, 20, 22, 24
	for number := range 8 {
		f.packet(number, false)
	}
	f.packet(10, true) // the fifth: 0 to 7 is forgotten
	f.packet(8, true)  // the fifth, and lowest
	f.packet(9, true)  // now it joins 10
	f.packet(8, false)
	f.packet(10, false)
	f.packet(11, true)
}

// However many numbers come, those of one run stay one run.
func TestP4ManyNumbersInOrder(t *testing.T) {
	f := newFlow(t)
	for number := range 500 {
		f.packet(number, true)
		f.packet(number/2, false)
	}
	f.packet(700, true)
	for number := 500; number < 700; number++ {
		f.packet(number, true)
	}
	f.packet(100, false)
}

// Data that came already is not heard, but counts; new data is heard.
func TestP4DataIsHeard(t *testing.T) {
	s := start(t, config())
	s.opens(1, 5)
	s.clock(9, api.OK)
	s.receives(1, data(5, 3))
	s.clock(18, api.OK)
	s.receives(1, data(5, 3, []byte{255}))
	s.looks(5, api.Look{Proven: true, GotBytes: 12 + 3 + 4, SentBytes: 10, Credit: 16, Limit: 2})
	s.clock(19, api.OK)
	s.absent(5)
	s.memory(0)
	s.receives(1, data(5, 4))
	s.absent(5)
}

// A connection made anew knows nothing of the numbers, streams and bytes of the one before.
func TestP4NothingIsLeftOfAConnection(t *testing.T) {
	s := start(t, config())
	for range 3 {
		s.opens(1, 5)
		s.receives(1, data(5, 3, piece(0, 0, "abc"), last(1, 4, "z")))
		s.looks(5, api.Look{Proven: true, GotBytes: 27, SentBytes: 10, Credit: 16, Limit: 2, Buffered: 4})
		s.receives(1, data(5, 4, piece(0, 0, "abc"), piece(0, 1, "x")), closed(1, 5, 9))
		s.absent(5)
		s.memory(0)
		s.accepts()
		s.opens(1, 5)
		s.receives(1, data(5, 4, piece(0, 0, "xyz")))
		s.buffers(5, 3)
		s.receives(1, data(5, 5, shut(1)))
		s.absent(5)
		s.memory(0)
		s.accepts()
	}
}
