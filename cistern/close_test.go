package cistern_test

import (
	"math"
	"testing"

	"cistern/api"
)

func TestP7CloseOfNobody(t *testing.T) {
	s := start(t, config())
	s.refusesClose(5, 0, api.ErrNone)
	s.opens(1, 5)
	for _, cid := range []int{4, 6, -1, 69, math.MaxInt, math.MinInt} {
		s.refusesClose(cid, 0, api.ErrNone)
		s.refusesClose(cid, -1, api.ErrNone) // named first
		s.refusesClose(cid, 1073741824, api.ErrNone)
	}
	s.there(5)
	s.closes(5, 0, closed(1, 5, 0))
	s.refusesClose(5, 0, api.ErrNone) // once alone
	s.refusesClose(5, -1, api.ErrNone)
}

func TestP7CodesThatAreNone(t *testing.T) {
	s := start(t, config())
	s.opens(1, 5)
	s.opensUnproven(2, 6)
	for _, code := range []int{-1, 1073741824, math.MaxInt, math.MinInt} {
		s.refusesClose(5, code, api.ErrArg)
		s.refusesClose(6, code, api.ErrArg)
	}
	s.there(5, 6)
	s.memory(288)
	s.accepts(5)
}

func TestP7CodesAreTold(t *testing.T) {
	for _, code := range []int{0, 1, 10, 63, 64, 300, 16383, 16384, 1073741823} {
		for _, cid := range []int{0, 5, 64, 1073741823} {
			s := start(t, config())
			s.opens(200, cid)
			s.closes(cid, code, closed(200, cid, code))
			s.absent(cid)
		}
	}
}

// Nothing is left of it, and the others stay.
func TestP7NothingIsLeft(t *testing.T) {
	c := config()
	c.Conns = 3
	s := start(t, c)
	s.opens(1, 5)
	s.opens(1, 6)
	s.opens(2, 7)
	s.receives(1, data(6, 0, piece(0, 0, "abc")))
	s.memory(3 * 144)
	s.closes(6, 1, closed(1, 6, 1))
	s.absent(6)
	s.memory(2 * 144)
	s.accepts(5, 7)
	s.receives(1, data(6, 1, piece(0, 0, "abc")))
	s.refusesRead(6, 0, 9, api.ErrNone)
	s.closes(5, 1, closed(1, 5, 1)) // accepted already
	s.closes(7, 1, closed(2, 7, 1))
	s.absent(5, 7)
	s.memory(0)
	s.accepts()
	// there is room again, also for those that are not proven
	s.opensUnproven(3, 8)
	s.receives(3, hello(9, nil, pads(9)), retry(c, 3, 9, 5))
	s.closes(8, 1, closed(3, 8, 1))
	s.opensUnproven(3, 9)
}

// The cid used anew: the connection is another one, of another address, and begins from nothing.
func TestP7CidUsedAnew(t *testing.T) {
	s := start(t, config())
	s.opens(1, 5)
	s.receives(1, data(5, 3, piece(0, 0, "abc")))
	s.closes(5, 9, closed(1, 5, 9))
	s.opensUnproven(2, 5)
	s.accepts()
	s.looks(5, api.Look{GotBytes: 23, SentBytes: 10, Credit: 16, Limit: 2})
	s.receives(1, data(5, 4, []byte{255})) // the former client
	s.receives(2, data(5, 3, piece(0, 0, "xyz"), prove(proofOf(s.c, 2, 5))))
	s.reads(5, 0, 9, text("xyz"))
	s.accepts(5)
	s.closes(5, 9, closed(2, 5, 9))
}

// To one that is not proven no more is sent than three times what came: then it is gone without a word.
func TestP7CloseOfOneNotProven(t *testing.T) {
	for _, x := range []struct {
		pads, code int
		told       bool
	}{
		{1, 0, false},      // 4 came, 10 of 12 are sent
		{2, 0, true},       // 5 came: 4 more are 14 of 15
		{2, 64, true},      // 5 more are 15 of 15
		{2, 16384, false},  // 7 more are 17 of 15
		{3, 16384, true},   // 17 of 18
		{20, 16384, true},  // any number
		{0, 0, true},       // 3 came: the Welcome was not sent, so there is room for 4
		{0, 1 << 29, true}, // and for 7
	} {
		s := start(t, config())
		s.Receive(1, hello(5, nil, pads(x.pads)))
		if x.told {
			s.closes(5, x.code, closed(1, 5, x.code))
		} else {
			s.closes(5, x.code)
		}
		s.absent(5)
		s.memory(0)
	}
	// proven since: it is told whatever was sent
	s := start(t, config())
	s.Receive(1, hello(5, nil, pads(1)))
	s.receives(1, data(5, 0, prove(proofOf(s.c, 1, 5))))
	s.closes(5, 1<<29, closed(1, 5, 1<<29))
}

func TestP2NewsOfACloseAreFresh(t *testing.T) {
	s := start(t, config())
	s.opens(1, 5)
	s.opens(1, 6)
	first, _ := s.Close(5, 300)
	second, _ := s.Close(6, 300)
	spoilSent(first)
	if !sameSent(second, []api.Sent{closed(1, 6, 300)}) {
		t.Errorf("writing into an answer changed another: %x", second)
	}
	s.opens(1, 5)
	s.closes(5, 300, closed(1, 5, 300))
}
