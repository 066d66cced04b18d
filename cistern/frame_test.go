package cistern_test

import (
	"bytes"
	"testing"

	"cistern/api"
)

// narrow: streams of 8 bytes, 12 together.
func narrow() api.Config {
	c := config()
	c.Window = 12
	return c
}

const stays = -1

// ends sends frames to a fresh connection: it is gone with a code, or stays. The frames go in one datagram, and one in each, too.
func ends(t *testing.T, c api.Config, code int, frames ...[]byte) {
	t.Helper()
	together := start(t, c)
	together.opens(1, 5)
	apart := start(t, c)
	apart.opens(1, 5)
	var sent []api.Sent
	if code != stays {
		sent = []api.Sent{closed(1, 5, code)}
	}
	together.receives(1, data(5, 0, frames...), sent...)
	for i, f := range frames {
		if i < len(frames)-1 {
			apart.receives(1, data(5, i, f))
		} else {
			apart.receives(1, data(5, i, f), sent...)
		}
	}
	for _, s := range []server{together, apart} {
		if code == stays {
			s.accepts(5)
			s.memory(s.c.Window + 128)
			continue
		}
		s.absent(5)
		s.accepts()
		s.memory(0)
		s.receives(1, data(5, 9, []byte{255}))
	}
}

func TestP4FramesWellMadeAndCutShort(t *testing.T) {
	c := narrow()
	c.Streams, c.Memory = 2, 1000
	for _, f := range [][]byte{
		{0}, {1},
		piece(1, 2, "abc"),
		last(1, 2, "abc"),
		{3, 64, 1, 128, 0, 0, 2, 64, 1, 'a'}, // numbers in more bytes than need be
		piece(0, 0, ""),
		reset(1, 3),
		{5, 128, 0, 0, 1, 64, 3},
		prove(proofOf(c, 1, 5)),
	} {
		ends(t, c, stays, f)
		ends(t, c, stays, []byte{0, 1}, f, []byte{1, 0})
		for cut := 1; cut < len(f); cut++ {
			ends(t, c, 7, f[:cut])
			ends(t, c, 7, []byte{0, 1}, f[:cut])
		}
	}
	for _, f := range []string{
		"\x03\xc0\x00\x00", "\x03\x00\xff\x00", "\x03\x00\x00\xc0", "\x04\xc0\x00\x00", "\x04\x00\xff\x00", "\x04\x00\x00\xc0",
		"\x05\xc0\x00", "\x05\x00\xc0", "\x06\xc0", "\x07\xff", "\x03\x00\x00\xbf\xff\xff\xff", "\x06", "\x06\x40", "\x06\x80\x00\x00",
	} {
		ends(t, c, 7, []byte(f))
	}
	ends(t, c, stays)
}

func TestP4UnknownTypes(t *testing.T) {
	for kind := range 256 {
		if kind <= 7 && kind != 2 {
			continue
		}
		ends(t, narrow(), 7, []byte{byte(kind)})
		ends(t, narrow(), 7, []byte{byte(kind), 0, 0, 0})
	}
}

// Close: gone, no news; what stands behind it is not looked at, what stands ahead was dealt with.
func TestP4Close(t *testing.T) {
	for _, code := range []int{0, 9, 1073741823} {
		s := start(t, config())
		s.opens(1, 5)
		s.opensUnproven(2, 6)
		s.receives(1, data(5, 0, piece(0, 0, "abc"), shut(code), []byte{255}))
		s.receives(2, data(6, 0, shut(code), prove(0)))
		s.absent(5, 6)
		s.accepts()
		s.memory(0)
	}
}

func TestP4Prove(t *testing.T) {
	c := config()
	c.Load = 2
	s := start(t, c)
	s.opensUnproven(1, 5)
	s.opensUnproven(2, 6)
	right := proofOf(c, 1, 5)
	s.receives(1, data(5, 0, prove(right), prove(right), piece(0, 0, "abc")))
	s.looks(5, api.Look{Proven: true, GotBytes: 23 + 20, SentBytes: 10, Credit: 16, Limit: 2, Buffered: 3})
	s.receives(1, data(5, 1, prove(right)))
	s.accepts(5) // once alone
	s.receives(1, data(5, 2, prove(right)))
	s.accepts()
	s.receives(1, data(5, 3, prove(right+1)), closed(1, 5, 10)) // proven, but this is another one
	s.absent(5)
	s.receives(2, data(6, 0, prove(right)), closed(2, 6, 10)) // another connection's
	s.absent(6)
	s.accepts()
}

// Who is proven, and breaks the rules in the same datagram, does not wait.
func TestP4ProveAndBreach(t *testing.T) {
	s := start(t, config())
	s.opensUnproven(1, 5)
	s.receives(1, data(5, 0, prove(proofOf(s.c, 1, 5)), []byte{2}), closed(1, 5, 7))
	s.accepts()
	s.opensUnproven(1, 5)
	s.receives(1, data(5, 0, prove(proofOf(s.c, 1, 5)), shut(0)))
	s.accepts()
	s.memory(0)
	// a breach ahead of the proof: news are counted as of one who is not proven
	s.receives(1, hello(5, nil, []byte{2}, prove(proofOf(s.c, 1, 5))), welcome(s.c, 1, 5), closed(1, 5, 7))
	s.receives(1, hello(64, nil, []byte{255}), welcome(s.c, 1, 64))
	// behind the proof: they go out, however little came
	c := config()
	c.Window, c.Piece, c.Memory = 4096, 4096, 100000
	s = start(t, c)
	s.receives(1, hello(5, nil, prove(proofOf(c, 1, 5)), []byte{2}), welcome(c, 1, 5), closed(1, 5, 7))
	s.absent(5)
}

func TestP4BadStream(t *testing.T) {
	c := narrow()
	for _, streams := range []int{1, 2, 8} {
		c.Streams = streams
		for _, make := range []func(id int) []byte{
			func(id int) []byte { return piece(id, 0, "") },
			func(id int) []byte { return piece(id, 0, "a") },
			func(id int) []byte { return last(id, 0, "a") },
			func(id int) []byte { return reset(id, 1) },
		} {
			s := start(t, c)
			s.opens(1, 5)
			for id := range streams {
				s.receives(1, data(5, id, make(id)))
			}
			s.receives(1, data(5, 60, make(streams)), closed(1, 5, 4))
			s.absent(5)
			s = start(t, c)
			s.opens(1, 5)
			s.receives(1, data(5, 0, make(1073741823)), closed(1, 5, 4))
			s.absent(5)
		}
	}
}

func TestP4BadCredit(t *testing.T) {
	for _, x := range []struct {
		code   int
		frames [][]byte
	}{
		// the stream's: 8
		{stays, [][]byte{piece(0, 0, "abcdefgh")}},
		{3, [][]byte{piece(0, 0, "abcdefghi")}},
		{stays, [][]byte{piece(0, 8, "")}},
		{3, [][]byte{piece(0, 9, "")}},
		{stays, [][]byte{last(0, 7, "h")}},
		{3, [][]byte{last(0, 8, "i")}},
		{stays, [][]byte{reset(0, 8)}},
		{3, [][]byte{reset(0, 9)}},
		{3, [][]byte{piece(0, 1073741823, "a")}},
		{3, [][]byte{reset(0, 1073741823)}},
		// all streams' together: 12; what is between counts, too, and what was reset
		{stays, [][]byte{piece(0, 8, ""), piece(1, 4, "")}},
		{3, [][]byte{piece(0, 8, ""), piece(1, 5, "")}},
		{stays, [][]byte{piece(0, 0, "a"), piece(0, 7, "h"), piece(1, 3, "d")}},
		{3, [][]byte{piece(0, 7, "h"), piece(1, 4, "e")}},
		{stays, [][]byte{reset(0, 8), reset(1, 4)}},
		{3, [][]byte{reset(0, 8), reset(1, 5)}},
		{3, [][]byte{reset(0, 8), last(1, 4, "e")}},
		{3, [][]byte{last(0, 7, "h"), reset(1, 5)}},
		// what came already does not count again
		{stays, [][]byte{piece(0, 0, "abcdefgh"), piece(0, 0, "abcdefgh"), piece(0, 2, "cd"), piece(1, 0, "abcd"), piece(0, 8, ""), piece(1, 0, "abcd"), last(0, 8, ""), reset(0, 8)}},
		{3, [][]byte{piece(1, 0, "abcd"), piece(0, 0, "abcdefgh"), piece(1, 0, "abcde")}},
		{stays, [][]byte{piece(0, 2, ""), piece(0, 4, ""), piece(0, 6, ""), piece(0, 8, ""), piece(1, 4, "")}},
	} {
		ends(t, narrow(), x.code, x.frames...)
	}
	// the third stream finds no credit left
	c := narrow()
	c.Streams = 3
	s := start(t, c)
	s.opens(1, 5)
	s.receives(1, data(5, 0, piece(0, 4, ""), piece(1, 4, ""), piece(2, 4, "")))
	s.receives(1, data(5, 1, piece(2, 4, "e")), closed(1, 5, 3))
}

func TestP4BadFinal(t *testing.T) {
	for _, x := range []struct {
		code   int
		frames [][]byte
	}{
		// the final size is known by Last
		{stays, [][]byte{last(0, 3, ""), piece(0, 3, ""), piece(0, 0, "abc"), last(0, 0, "abc"), last(0, 2, "c")}},
		{6, [][]byte{last(0, 3, ""), piece(0, 4, "")}},
		{6, [][]byte{last(0, 3, ""), piece(0, 2, "cd")}},
		{6, [][]byte{last(0, 3, ""), last(0, 4, "")}},
		{6, [][]byte{last(0, 3, ""), last(0, 2, "")}},
		{stays, [][]byte{last(0, 3, ""), reset(0, 3)}},
		{6, [][]byte{last(0, 3, ""), reset(0, 2)}},
		{6, [][]byte{last(0, 3, ""), reset(0, 4)}},
		{stays, [][]byte{last(0, 0, ""), piece(0, 0, ""), reset(0, 0)}},
		{6, [][]byte{last(0, 0, ""), piece(0, 0, "a")}},
		// by Reset
		{stays, [][]byte{reset(0, 3), piece(0, 0, "abc"), last(0, 2, "c"), last(0, 3, ""), reset(0, 3)}},
		{6, [][]byte{reset(0, 3), piece(0, 0, "abcd")}},
		{6, [][]byte{reset(0, 3), last(0, 1, "b")}},
		{6, [][]byte{reset(0, 3), last(0, 3, "d")}},
		{6, [][]byte{reset(0, 3), reset(0, 2)}},
		{6, [][]byte{reset(0, 3), reset(0, 4)}},
		{6, [][]byte{reset(0, 0), piece(0, 1, "")}},
		// it is below what came
		{6, [][]byte{piece(0, 3, "d"), last(0, 3, "")}},
		{stays, [][]byte{piece(0, 3, "d"), last(0, 4, "")}},
		{6, [][]byte{piece(0, 3, "d"), reset(0, 3)}},
		{stays, [][]byte{piece(0, 3, "d"), reset(0, 4)}},
		{6, [][]byte{piece(0, 4, ""), last(0, 3, "")}},
		{6, [][]byte{piece(0, 4, ""), reset(0, 0)}},
		// another stream's is its own
		{stays, [][]byte{last(0, 3, ""), piece(1, 4, ""), last(1, 0, "abcde")}},
	} {
		ends(t, narrow(), x.code, x.frames...)
	}
}

func TestP4BadGaps(t *testing.T) {
	c := narrow()
	for _, x := range []struct {
		gaps, code int
		frames     [][]byte
	}{
		{1, stays, [][]byte{piece(0, 0, "a"), piece(0, 1, "b"), piece(0, 2, "c")}},
		{1, stays, [][]byte{piece(0, 7, "h"), piece(0, 6, "g"), piece(0, 5, "f")}},
		{1, 8, [][]byte{piece(0, 0, "a"), piece(0, 2, "c")}},
		{1, 8, [][]byte{piece(0, 2, "c"), piece(0, 0, "a")}},
		{1, stays, [][]byte{piece(0, 0, "a"), piece(1, 2, "c")}}, // each stream has gaps of its own
		{1, stays, [][]byte{piece(0, 0, "a"), piece(0, 2, ""), last(0, 4, "")}},
		{2, stays, [][]byte{piece(0, 0, "a"), piece(0, 2, "c")}},
		{2, 8, [][]byte{piece(0, 0, "a"), piece(0, 2, "c"), piece(0, 4, "e")}},
		{2, 8, [][]byte{piece(0, 0, "a"), piece(0, 2, "c"), last(0, 4, "e")}},
		{2, 8, [][]byte{piece(0, 4, "e"), piece(0, 2, "c"), piece(0, 0, "a")}},
		{2, stays, [][]byte{piece(0, 0, "a"), piece(0, 2, "c"), piece(0, 1, "b"), piece(0, 4, "e")}},
		{2, stays, [][]byte{piece(0, 1, "b"), piece(0, 3, "d"), piece(0, 0, "abcde"), piece(0, 6, "g")}},
		{2, 8, [][]byte{piece(0, 1, "b"), piece(0, 3, "d"), piece(0, 0, "ab"), piece(0, 6, "g")}},
		{4, stays, [][]byte{piece(0, 0, "a"), piece(0, 2, "c"), piece(0, 4, "e"), piece(0, 6, "g")}},
		{3, 8, [][]byte{piece(0, 0, "a"), piece(0, 2, "c"), piece(0, 4, "e"), piece(0, 6, "g")}},
		{3, stays, [][]byte{piece(0, 0, "a"), piece(0, 2, "c"), piece(0, 4, "e"), reset(0, 8), piece(0, 6, "g")}},
	} {
		c.Gaps = x.gaps
		ends(t, c, x.code, x.frames...)
	}
	// the most that may be
	c = config()
	c.Window, c.Piece, c.Gaps = 64, 64, 8
	for gaps, code := range map[int]int{8: stays, 9: 8} {
		var frames [][]byte
		for i := range gaps {
			frames = append(frames, piece(0, 3*i, "x"))
		}
		ends(t, c, code, frames...)
	}
}

func TestP4BadBytes(t *testing.T) {
	c := narrow()
	for _, x := range []struct {
		code   int
		frames [][]byte
	}{
		{stays, [][]byte{piece(0, 0, "abc"), piece(0, 0, "abc")}},
		{stays, [][]byte{piece(0, 0, "abc"), piece(0, 1, "bcd")}},
		{stays, [][]byte{piece(0, 2, "cde"), piece(0, 0, "abcd")}},
		{stays, [][]byte{piece(0, 1, "b"), piece(0, 4, "e"), piece(0, 0, "abcdef")}},
		{9, [][]byte{piece(0, 0, "abc"), piece(0, 0, "xbc")}},
		{9, [][]byte{piece(0, 0, "abc"), piece(0, 0, "abx")}},
		{9, [][]byte{piece(0, 0, "abc"), piece(0, 2, "xd")}},
		{9, [][]byte{piece(0, 2, "cde"), piece(0, 0, "abx")}},
		{9, [][]byte{piece(0, 1, "b"), piece(0, 4, "e"), piece(0, 0, "axcdef")}},
		{9, [][]byte{piece(0, 1, "b"), piece(0, 4, "e"), piece(0, 0, "abcdxf")}},
		{9, [][]byte{piece(0, 0, "abc"), last(0, 0, "abx")}},
		{9, [][]byte{piece(0, 0, "a"), piece(0, 1, "b"), piece(0, 0, "ax")}},
		{9, [][]byte{piece(0, 0, "a\x00c"), piece(0, 1, "b")}},
		{9, [][]byte{last(0, 0, "abc"), piece(0, 1, "x")}},
		{stays, [][]byte{piece(0, 0, "abc"), piece(0, 3, "x"), piece(1, 0, "xyz")}}, // they only touch, or are another stream's
		// a stream that was reset has none to be held against
		{stays, [][]byte{piece(0, 0, "abc"), reset(0, 4), piece(0, 0, "xyz"), piece(0, 0, "uvw")}},
		// one that was all received is not reset
		{9, [][]byte{piece(0, 0, "abc"), reset(0, 3), piece(0, 0, "xyz")}},
	} {
		ends(t, c, x.code, x.frames...)
	}
}

// Where several breaches apply, it is the one that the document names first.
func TestP4OrderOfBreaches(t *testing.T) {
	c := narrow()
	c.Gaps = 1
	for _, x := range []struct {
		code   int
		frames [][]byte
	}{
		{7, [][]byte{{3, 2, 0, 1}}},                                              // 7, 4
		{7, [][]byte{{5, 2}}},                                                    // 7, 4
		{4, [][]byte{piece(2, 9, "a")}},                                          // 4, 3
		{4, [][]byte{reset(2, 9)}},                                               // 4, 3
		{6, [][]byte{last(0, 3, ""), piece(0, 9, "")}},                           // 6, 3
		{6, [][]byte{last(0, 3, ""), last(0, 9, "")}},                            // 6, 3
		{6, [][]byte{last(0, 3, ""), reset(0, 9)}},                               // 6, 3
		{6, [][]byte{piece(0, 8, ""), last(1, 3, ""), piece(1, 5, "")}},          // 6, 3 (of all streams)
		{6, [][]byte{last(0, 0, "abc"), piece(0, 2, "xd")}},                      // 6, 9
		{6, [][]byte{last(0, 0, "abc"), last(0, 0, "ax")}},                       // 6, 9
		{6, [][]byte{piece(0, 0, "abc"), last(0, 0, "ax")}},                      // 6, 9
		{6, [][]byte{last(0, 0, "abc"), piece(0, 5, "f")}},                       // 6, 8
		{3, [][]byte{piece(0, 0, "abc"), piece(0, 0, "axcdefghi")}},              // 3, 9
		{3, [][]byte{piece(0, 0, "abc"), piece(0, 9, "j")}},                      // 3, 8
		{3, [][]byte{piece(0, 8, ""), piece(1, 0, "abc"), piece(1, 0, "axcde")}}, // 3 (of all streams), 9
	} {
		ends(t, c, x.code, x.frames...)
	}
	// of two frames it is the first one's
	s := start(t, c)
	s.opens(1, 5)
	s.receives(1, data(5, 0, reset(0, 9), prove(1), []byte{2}), closed(1, 5, 3))
}

// What is buffered of two streams, behind each frame.
func TestP4WhatIsReceived(t *testing.T) {
	c := config()
	c.Window, c.Piece, c.Gaps = 64, 32, 3
	s := start(t, c)
	s.opens(1, 5)
	for packet, x := range []struct {
		frame    []byte
		buffered int
	}{
		{piece(0, 0, ""), 0},
		{piece(0, 20, ""), 0},
		{piece(0, 4, "efg"), 3},
		{piece(0, 4, "efg"), 3},
		{piece(0, 5, "fgh"), 4},
		{piece(0, 2, "cde"), 6},
		{piece(0, 10, "k"), 7},
		{piece(1, 10, "xy"), 9},
		{piece(0, 0, "abcdefghijklm"), 15},
		{piece(1, 0, "uvw"), 18},
		{last(0, 20, ""), 18},
		{last(1, 12, "z"), 19},
		{reset(1, 13), 13},     // not all of it was received
		{piece(1, 3, "!"), 13}, // and what still comes of it is nothing
		{last(1, 0, "0123456789abc"), 13},
		{piece(0, 13, "nopqrst"), 20},
		{reset(0, 20), 20}, // all of it was received
		{piece(0, 3, "def"), 20},
	} {
		s.receives(1, data(5, packet, x.frame))
		s.buffers(5, x.buffered)
	}
	s.receives(1, data(5, 30, piece(0, 3, "dex")), closed(1, 5, 9))
}

// A stream's end and its reset, in both orders, with and without all the bytes between.
func TestP4EndAndReset(t *testing.T) {
	for _, x := range []struct {
		buffered int
		frames   [][]byte
	}{
		{0, [][]byte{piece(0, 0, "ab"), last(0, 4, ""), reset(0, 4)}},
		{0, [][]byte{piece(0, 0, "ab"), reset(0, 4), last(0, 4, "")}},
		{0, [][]byte{piece(0, 0, "ab"), reset(0, 4), last(0, 0, "abcd")}},
		{0, [][]byte{reset(0, 4), reset(0, 4), piece(0, 0, "abcd")}},
		{0, [][]byte{piece(0, 1, "bcd"), reset(0, 4)}},
		{0, [][]byte{piece(0, 0, "ab"), piece(0, 3, "d"), reset(0, 4)}},
		{4, [][]byte{last(0, 0, "abcd"), reset(0, 4)}},
		{4, [][]byte{piece(0, 0, "abcd"), reset(0, 4)}},
		{4, [][]byte{piece(0, 0, "abcd"), reset(0, 4), reset(0, 4), last(0, 4, "")}},
		{4, [][]byte{piece(0, 2, "cd"), last(0, 4, ""), piece(0, 0, "ab"), reset(0, 4)}},
		{0, [][]byte{piece(0, 0, "abcd"), reset(0, 5)}},
		{0, [][]byte{reset(0, 0), piece(0, 0, "")}},
		{2, [][]byte{piece(1, 0, "xy"), piece(0, 0, "ab"), reset(0, 4)}}, // the other stream is left alone
	} {
		s := start(t, config())
		s.opens(1, 5)
		s.receives(1, data(5, 0, x.frames...))
		s.buffers(5, x.buffered)
	}
}

// What was lent is not kept: other bytes there later are no other bytes of the stream.
func TestP2DatagramsAreNotKept(t *testing.T) {
	s := start(t, config())
	s.opens(1, 5)
	lent := data(5, 0, piece(0, 0, "abc"))
	s.Receive(1, lent)
	for i := range lent {
		lent[i] = 'z'
	}
	s.receives(1, data(5, 1, piece(0, 0, "abc")))
	s.receives(1, data(5, 2, piece(0, 0, "zbc")), closed(1, 5, 9))
	token := tokenOf(s.c, 1, 5)
	lent = hello(6, token, piece(0, 0, "abc"))
	s.Receive(1, lent)
	clear(lent)
	s.receives(1, data(6, 1, piece(0, 0, "abc")))
	s.buffers(6, 3)
}

func TestP2WhatIsSentIsFresh(t *testing.T) {
	c := config()
	c.Load = 1
	want := welcome(c, 1, 5)
	s := start(t, c)
	s.receives(1, hello(5, nil, pads(50)), want)
	a := s.Receive(1, hello(5, nil))
	spoilSent(s.Receive(1, hello(5, nil)))
	b := s.Receive(1, hello(5, nil))
	if !sameSent(a, []api.Sent{want}) || !sameSent(b, []api.Sent{want}) {
		t.Errorf("writing into an answer changed others: %x, %x, want %x", a, b, want)
	}
	first := s.Receive(2, hello(6, nil, pads(9)))
	spoilSent(s.Receive(2, hello(6, nil, pads(9))))
	if !sameSent(first, []api.Sent{retry(c, 2, 6, 5)}) {
		t.Errorf("writing into a retry changed another: %x", first)
	}
	// two datagrams of one answer share nothing, either
	l := s.Receive(2, hello(7, tokenOf(c, 2, 5), []byte{2}))
	if len(l) != 2 {
		t.Fatalf("sent %x", l)
	}
	spoiled := l[0].Bytes[:cap(l[0].Bytes)]
	clear(spoiled)
	if !bytes.Equal(l[1].Bytes, closed(2, 7, 7).Bytes) {
		t.Errorf("writing into one datagram changed the other: %x", l[1].Bytes)
	}
}
