package cistern_test

import (
	"bytes"
	"math"
	"testing"

	"cistern/api"
)

// opened is a server with one connection, of address 1 and cid 5, that is proven.
func opened(t *testing.T, c api.Config) server {
	t.Helper()
	s := start(t, c)
	s.opens(1, 5)
	return s
}

// brings sends frames to the connection 5 in a packet of their own; nothing is sent back.
func (s server) brings(packet int, frames ...[]byte) {
	s.t.Helper()
	s.receives(1, data(5, packet, frames...))
}

// wide: streams of 32 bytes, 64 together.
func wide() api.Config {
	c := config()
	c.Window, c.Piece, c.Gaps = 64, 32, 3
	return c
}

func TestP6ReadOfNobody(t *testing.T) {
	c := config()
	c.Conns, c.Load, c.Memory = 8, 8, 100000
	s := start(t, c)
	s.refusesRead(5, 0, 0, api.ErrNone)
	s.opens(1, 5)
	for _, cid := range []int{4, 6, -1, -5, 69, math.MaxInt, math.MinInt} {
		s.refusesRead(cid, 0, 9, api.ErrNone)
	}
	// gone, in each way
	s.brings(0, shut(0))
	s.refusesRead(5, 0, 9, api.ErrNone)
	s.opens(1, 5)
	s.receives(1, data(5, 0, []byte{2}), closed(1, 5, 7))
	s.refusesRead(5, 0, 9, api.ErrNone)
	s.opens(1, 5)
	s.closes(5, 0, closed(1, 5, 0))
	s.refusesRead(5, 0, 9, api.ErrNone)
	s.opens(1, 5)
	s.clock(10, api.OK)
	s.refusesRead(5, 0, 9, api.ErrNone)
}

// What came of a connection is read when it is proven, whether it was accepted or not.
func TestP6ReadOfOneNotProven(t *testing.T) {
	s := start(t, config())
	s.opensUnproven(1, 5)
	s.brings(0, last(0, 0, "abc"))
	s.refusesRead(5, 0, 9, api.ErrNone)
	s.refusesRead(5, 0, 0, api.ErrNone)
	s.brings(1, prove(proofOf(s.c, 1, 5)))
	s.reads(5, 0, 9, ended("abc"), streamsNews(1, 5, 3))
	s.accepts(5)
	s.reads(5, 0, 9, ended(""))
}

func TestP6ReadOfNoStream(t *testing.T) {
	for _, streams := range []int{1, 2, 8} {
		c := config()
		c.Streams = streams
		s := opened(t, c)
		for id := range streams {
			s.reads(5, id, 9, text(""))
		}
		for _, id := range []int{-1, streams, streams + 1, 1073741823, 1073741824, math.MaxInt, math.MinInt} {
			s.refusesRead(5, id, 9, api.ErrArg)
		}
		// the limit goes up
		s.brings(0, last(0, 0, ""))
		s.reads(5, 0, 9, ended(""), streamsNews(1, 5, streams+1))
		s.reads(5, streams, 9, text(""))
		s.refusesRead(5, streams+1, 9, api.ErrArg)
		s.refusesRead(5, -1, 9, api.ErrArg)
	}
}

func TestP6ReadOfLessThanNothing(t *testing.T) {
	s := opened(t, config())
	s.brings(0, last(0, 0, "abc"))
	s.refusesRead(5, 0, -1, api.ErrArg)
	s.refusesRead(5, 0, math.MinInt, api.ErrArg)
	s.refusesRead(5, 1, -1, api.ErrArg)
	s.reads(5, 0, 9, ended("abc"), streamsNews(1, 5, 3))
	s.refusesRead(5, 0, -1, api.ErrArg) // done, too
}

func TestP6OrderOfErrors(t *testing.T) {
	s := opened(t, config())
	s.opensUnproven(2, 6)
	for _, cid := range []int{-1, 6, 7} {
		s.refusesRead(cid, 2, 9, api.ErrNone)
		s.refusesRead(cid, 0, -1, api.ErrNone)
		s.refusesRead(cid, -1, -1, api.ErrNone)
	}
	s.refusesRead(5, 2, -1, api.ErrArg)
	s.refusesRead(5, -1, -1, api.ErrArg)
}

// A Read with an error takes nothing, ends nothing and raises nothing.
func TestP1ReadWithAnErrorChangesNothing(t *testing.T) {
	s := opened(t, config())
	s.brings(0, piece(0, 0, "abcdefgh"), last(1, 0, "xyz"))
	for _, x := range []struct {
		cid, id, most int
		want          api.Errno
	}{{5, 0, -1, api.ErrArg}, {5, 1, -1, api.ErrArg}, {5, 2, 9, api.ErrArg}, {5, -1, 9, api.ErrArg}, {6, 0, 9, api.ErrNone}} {
		s.refusesRead(x.cid, x.id, x.most, x.want)
	}
	s.reads(5, 0, 9, text("abcdefgh"), pieceNews(1, 5, 0, 16))
	s.reads(5, 1, 9, ended("xyz"), dataNews(1, 5, 27), streamsNews(1, 5, 3))
}

func TestP6BytesAsManyAsMayBe(t *testing.T) {
	for _, x := range []struct {
		most  int
		front string
		left  int
	}{
		{0, "", 5}, {1, "a", 4}, {4, "abcd", 1}, {5, "abcde", 0}, {6, "abcde", 0}, {1000, "abcde", 0}, {math.MaxInt, "abcde", 0},
	} {
		s := opened(t, wide())
		s.brings(0, piece(0, 0, "abcde"), piece(1, 0, "xyz"))
		s.reads(5, 0, x.most, text(x.front))
		s.buffers(5, x.left+3)
		s.reads(5, 0, 9, text("abcde"[len(x.front):]))
		s.reads(5, 0, 9, text(""))
		s.buffers(5, 3)
		s.reads(5, 1, 2, text("xy"))
		s.reads(5, 1, 2, text("z"))
		s.buffers(5, 0)
	}
}

func TestP6BytesUpToAGap(t *testing.T) {
	s := opened(t, wide())
	s.brings(0, piece(0, 2, "cd"))
	s.reads(5, 0, 9, text(""))
	s.buffers(5, 2)
	s.brings(1, piece(0, 6, "g"))
	s.brings(2, piece(0, 0, "a"))
	s.reads(5, 0, 9, text("a"))
	s.reads(5, 0, 9, text(""))
	s.buffers(5, 3)
	s.brings(3, piece(0, 0, "ab"))
	s.reads(5, 0, 2, text("bc"))
	s.reads(5, 0, 9, text("d"))
	s.reads(5, 0, 9, text(""))
	s.brings(4, piece(0, 5, "f"))
	s.reads(5, 0, 9, text(""))
	s.brings(5, piece(0, 4, "e"))
	s.reads(5, 0, 9, text("efg"))
	s.buffers(5, 0)
	s.brings(6, piece(0, 7, "h"))
	s.reads(5, 0, 9, text("h"))
}

// Each byte in a packet and a Read of its own, from the last one on and from the first one on.
func TestP6BytesOneByOne(t *testing.T) {
	c := wide()
	c.Gaps = 1
	whole := "abcdefghijklmnop"
	s := opened(t, c)
	for i := range whole {
		at := len(whole) - 1 - i
		s.brings(i, piece(0, at, whole[at:at+1]))
	}
	for i := range whole {
		s.brings(20+i, piece(1, i, whole[i:i+1]))
		s.reads(5, 0, 1, text(whole[i:i+1]))
		s.reads(5, 1, 1, text(whole[i:i+1]))
		s.buffers(5, len(whole)-1-i)
	}
}

// What was read is held against nothing any more; what is ahead of it still is.
func TestP6BytesBehindAndAheadOfWhatWasRead(t *testing.T) {
	for _, x := range []struct {
		code  int
		frame []byte
		next  string
	}{
		{stays, piece(0, 0, "????"), "ef"},
		{stays, piece(0, 0, "????ef"), "ef"},
		{stays, piece(0, 0, "????efgh"), "efgh"},
		{stays, piece(0, 3, "?e"), "ef"},
		{stays, piece(0, 3, ""), "ef"},
		{stays, piece(0, 4, "efg"), "efg"},
		{stays, piece(0, 6, "gh"), "efgh"},
		{stays, piece(0, 7, "h"), "ef"},
		{9, piece(0, 0, "abcd?f"), ""},
		{9, piece(0, 0, "????e?"), ""},
		{9, piece(0, 3, "d?"), ""},
		{9, piece(0, 5, "?"), ""},
		{9, last(0, 0, "????e?gh"), ""},
	} {
		s := opened(t, wide())
		s.brings(0, piece(0, 0, "abcdef"))
		s.reads(5, 0, 4, text("abcd"))
		if x.code != stays {
			s.receives(1, data(5, 1, x.frame), closed(1, 5, x.code))
			s.refusesRead(5, 0, 9, api.ErrNone)
			continue
		}
		s.brings(1, x.frame)
		s.reads(5, 0, 9, text(x.next))
	}
}

// Runs are counted of what is not read yet.
func TestP6GapsBehindWhatWasRead(t *testing.T) {
	c := wide()
	c.Gaps = 2
	s := opened(t, c)
	s.brings(0, piece(0, 0, "ab"), piece(0, 4, "e"))
	s.reads(5, 0, 9, text("ab"))
	s.brings(1, piece(0, 6, "g"))
	s.brings(2, piece(0, 0, "?"), piece(0, 1, "?")) // these are no runs
	s.brings(3, piece(0, 2, "cd"), piece(0, 5, "f"))
	s.reads(5, 0, 3, text("cde"))
	s.brings(4, piece(0, 8, "i")) // a part of a run is one, too
	s.receives(1, data(5, 5, piece(0, 10, "k")), closed(1, 5, 8))
}

// Streams know nothing of one another, nor do connections, nor servers.
func TestP6StreamsApart(t *testing.T) {
	c := wide()
	c.Streams, c.Memory = 3, 1000
	s, other := opened(t, c), opened(t, c)
	s.opens(2, 6)
	s.brings(0, piece(0, 0, "abc"), piece(1, 0, "ABC"), piece(2, 0, "123"))
	s.receives(2, data(6, 0, piece(0, 0, "uvw")))
	other.brings(0, last(0, 0, "xy"))
	s.reads(5, 1, 2, text("AB"))
	s.reads(5, 0, 1, text("a"))
	other.reads(5, 0, 9, ended("xy"), streamsNews(1, 5, 4))
	s.reads(6, 0, 9, text("uvw"))
	s.reads(5, 2, 9, text("123"))
	s.reads(5, 1, 9, text("C"))
	s.reads(5, 0, 9, text("bc"))
	s.reads(6, 1, 9, text(""))
	s.looks(6, api.Look{Proven: true, GotBytes: 12 + 10, SentBytes: 11, Credit: 64, Limit: 3})
}

func TestP6Ends(t *testing.T) {
	for _, x := range []struct {
		frames [][]byte
		whole  string
	}{
		{[][]byte{last(0, 0, "abcd")}, "abcd"},
		{[][]byte{piece(0, 0, "abcd"), last(0, 4, "")}, "abcd"},
		{[][]byte{piece(0, 0, "ab"), last(0, 1, "bcd")}, "abcd"},
		{[][]byte{last(0, 4, ""), piece(0, 0, "abcd")}, "abcd"},
		{[][]byte{last(0, 2, "cd"), piece(0, 0, "ab")}, "abcd"},
		{[][]byte{last(0, 2, "cd"), last(0, 0, "abcd")}, "abcd"},
		{[][]byte{last(0, 0, "")}, ""},
		{[][]byte{piece(0, 0, ""), last(0, 0, "")}, ""},
		// reset when all was received: it is read to its end
		{[][]byte{piece(0, 0, "abcd"), reset(0, 4)}, "abcd"},
		{[][]byte{last(0, 0, "abcd"), reset(0, 4)}, "abcd"},
		{[][]byte{last(0, 3, "d"), piece(0, 0, "abc"), reset(0, 4), reset(0, 4)}, "abcd"},
		{[][]byte{reset(0, 0)}, ""},
		{[][]byte{last(0, 0, ""), reset(0, 0)}, ""},
	} {
		for most := range 7 {
			s := opened(t, config())
			s.brings(0, x.frames...)
			for rest := x.whole; ; rest = rest[most:] {
				if most >= len(rest) {
					s.reads(5, 0, most, ended(rest), streamsNews(1, 5, 3))
					break
				}
				s.reads(5, 0, most, text(rest[:most]))
				if most == 0 {
					most = 2
					s.reads(5, 0, most, text(rest[:most]))
				}
			}
			s.reads(5, 0, 9, ended(""))
			s.reads(5, 0, 0, ended(""))
			s.buffers(5, 0)
		}
	}
}

// The end is told where it is reached, not where it is known.
func TestP6EndThatComesLater(t *testing.T) {
	s := opened(t, wide())
	s.brings(0, last(0, 3, "d"), piece(0, 0, "ab"))
	s.reads(5, 0, 9, text("ab"))
	s.reads(5, 0, 9, text(""))
	s.brings(1, piece(0, 2, "c"))
	s.reads(5, 0, 1, text("c"))
	s.reads(5, 0, 1, ended("d"), streamsNews(1, 5, 3))
	// all is read when the end comes
	s.brings(2, piece(1, 0, "xyz"))
	s.reads(5, 1, 9, text("xyz"))
	s.reads(5, 1, 9, text(""))
	s.brings(3, last(1, 3, ""))
	s.reads(5, 1, 0, ended(""), streamsNews(1, 5, 4))
	// or by a Reset: nothing is missing
	s.brings(4, piece(2, 0, "xyz"))
	s.reads(5, 2, 9, text("xyz"))
	s.brings(5, reset(2, 3))
	s.reads(5, 2, 9, ended(""), streamsNews(1, 5, 5))
	s.reads(5, 0, 9, ended(""))
	s.reads(5, 1, 9, ended(""))
	s.reads(5, 2, 9, ended(""))
}

func TestP6Resets(t *testing.T) {
	for _, x := range []struct {
		most   int
		front  string
		frames [][]byte
	}{
		{9, "", [][]byte{reset(0, 4)}},
		{0, "", [][]byte{piece(0, 0, "ab"), reset(0, 4)}},
		{1, "a", [][]byte{piece(0, 0, "ab"), reset(0, 4)}},
		{9, "ab", [][]byte{piece(0, 0, "ab"), reset(0, 4)}},
		{9, "ab", [][]byte{piece(0, 0, "ab"), piece(0, 3, "d"), reset(0, 4)}},
		{9, "", [][]byte{piece(0, 1, "bcd"), reset(0, 4)}},
		{9, "abc", [][]byte{piece(0, 0, "abc"), last(0, 4, ""), reset(0, 4)}},
		{2, "ab", [][]byte{piece(0, 0, "abc"), reset(0, 4), last(0, 4, "")}},
		{2, "ab", [][]byte{piece(0, 0, "abc"), reset(0, 4), piece(0, 0, "abcd"), reset(0, 4)}},
	} {
		s := opened(t, wide())
		s.brings(0, x.frames[0])
		if x.front != "" {
			s.reads(5, 0, x.most, text(x.front))
		}
		s.brings(1, x.frames[1:]...)
		s.buffers(5, 0)
		s.reads(5, 0, x.most, gaveUp(), streamsNews(1, 5, 3))
		s.reads(5, 0, 9, gaveUp())
		s.reads(5, 0, 0, gaveUp())
		s.looks(5, api.Look{Proven: true, GotBytes: s.gotBytes(), SentBytes: 11 + 4, Credit: 64, Limit: 3})
	}
}

// gotBytes and sentBytes are for tests to which they do not matter.
func (s server) gotBytes() int {
	l, _ := s.Look(5)
	return l.GotBytes
}

func (s server) sentBytes() int {
	l, _ := s.Look(5)
	return l.SentBytes
}

// A part was read, and from there on all was received: then it is no reset.
func TestP6ResetOfTheRest(t *testing.T) {
	s := opened(t, wide())
	s.brings(0, piece(0, 0, "abcd"))
	s.reads(5, 0, 3, text("abc"))
	s.brings(1, reset(0, 4))
	s.reads(5, 0, 9, ended("d"), streamsNews(1, 5, 3))
	s.brings(2, piece(1, 0, "abcd"))
	s.reads(5, 1, 3, text("abc"))
	s.brings(3, reset(1, 5))
	s.reads(5, 1, 9, gaveUp(), streamsNews(1, 5, 4))
}

// Frames to a stream that is done change nothing; those that go against its final size are a breach.
func TestP6FramesToStreamsThatAreDone(t *testing.T) {
	for _, x := range []struct {
		code  int
		frame []byte
	}{
		{stays, piece(0, 0, "abcd")},
		{stays, piece(0, 0, "????")},
		{stays, piece(0, 1, "??")},
		{stays, piece(0, 0, "")},
		{stays, piece(0, 4, "")},
		{stays, last(0, 4, "")},
		{stays, last(0, 0, "????")},
		{stays, reset(0, 4)},
		{6, piece(0, 5, "")},
		{6, piece(0, 4, "e")},
		{6, piece(0, 0, "abcde")},
		{6, piece(0, 9, "")}, // beyond the stream's credit, too
		{6, piece(0, 1073741823, "a")},
		{6, last(0, 3, "")},
		{6, last(0, 0, "")},
		{6, last(0, 5, "")},
		{6, last(0, 0, "abcde")},
		{6, reset(0, 3)},
		{6, reset(0, 0)},
		{6, reset(0, 5)},
		{6, reset(0, 1073741823)},
	} {
		for _, ends := range []struct {
			first []byte
			got   api.Got
		}{{last(0, 0, "abcd"), ended("abcd")}, {reset(0, 4), gaveUp()}} {
			s := opened(t, config())
			s.brings(0, ends.first)
			s.reads(5, 0, 9, ends.got, streamsNews(1, 5, 3))
			s.brings(1, piece(1, 0, "xyzxyzxy"), piece(2, 0, "1234")) // no credit is left
			if x.code != stays {
				s.receives(1, data(5, 2, x.frame), closed(1, 5, x.code))
				s.absent(5)
				continue
			}
			s.brings(2, x.frame)
			s.buffers(5, 12)
			s.reads(5, 0, 9, api.Got{End: ends.got.End, Reset: ends.got.Reset})
			s.reads(5, 2, 9, text("1234"))
		}
	}
}

// A connection made anew with the same cid has nothing of the streams of the one before.
func TestP6MadeAnewWithTheSameCid(t *testing.T) {
	s := opened(t, config())
	s.brings(0, last(0, 0, "abc"), piece(1, 0, "xyzxyz"))
	s.reads(5, 0, 9, ended("abc"), streamsNews(1, 5, 3))
	s.reads(5, 1, 5, text("xyzxy"), pieceNews(1, 5, 1, 13))
	s.closes(5, 0, closed(1, 5, 0))
	s.opens(1, 5)
	s.looks(5, api.Look{Proven: true, GotBytes: 12, SentBytes: 10, Credit: 16, Limit: 2})
	s.refusesRead(5, 2, 9, api.ErrArg)
	s.reads(5, 0, 9, text(""))
	s.reads(5, 1, 9, text(""))
	s.brings(0, piece(0, 0, "123"), piece(1, 0, "456"))
	s.reads(5, 1, 9, text("456"))
	s.reads(5, 0, 9, text("123"))
	s.receives(1, data(5, 1, piece(1, 9, "")), closed(1, 5, 3))
}

// A Read is not something that was heard of the client.
func TestP6ReadIsNotHeard(t *testing.T) {
	s := opened(t, config())
	s.brings(0, piece(0, 0, "abc"))
	s.clock(9, api.OK)
	s.reads(5, 0, 1, text("a"))
	s.clock(10, api.OK)
	s.absent(5)
}

// Who writes into what was read changes nothing else that came or comes.
func TestP2WhatIsReadIsFresh(t *testing.T) {
	s := opened(t, wide())
	s.brings(0, piece(0, 0, "abcdefgh"), piece(0, 10, "kl"))
	first, _, _ := s.Read(5, 0, 3)
	second, _, _ := s.Read(5, 0, 3)
	spoil(first.Bytes)
	if string(second.Bytes) != "def" {
		t.Errorf("writing into what was read changed what was read later: %q", second.Bytes)
	}
	spoil(second.Bytes)
	s.brings(1, piece(0, 6, "gh")) // what is not read yet is what it was
	s.brings(2, piece(0, 8, "ij"))
	third, _, _ := s.Read(5, 0, 1)
	spoil(third.Bytes)
	s.brings(3, piece(0, 7, "hijkl"))
	whole, _, _ := s.Read(5, 0, 9)
	s.brings(4, piece(0, 12, "mnopq"))
	s.reads(5, 0, 9, text("mnopq"), pieceNews(1, 5, 0, 49))
	if string(whole.Bytes) != "hijkl" {
		t.Errorf("what was read is %q later", whole.Bytes)
	}
	spoil(whole.Bytes)
	s.reads(5, 0, 9, text(""))
}

// The news of one Read, and those of several, share nothing.
func TestP2NewsOfAReadAreFresh(t *testing.T) {
	c := config()
	c.Window = 8
	s := opened(t, c)
	s.brings(0, piece(0, 0, "abcdefgh"))
	_, sent, _ := s.Read(5, 0, 9)
	want := []api.Sent{pieceNews(1, 5, 0, 16), dataNews(1, 5, 16)}
	if !sameSent(sent, want) {
		t.Fatalf("sent %x, want %x", sent, want)
	}
	spoil(sent[0].Bytes)
	if !bytes.Equal(sent[1].Bytes, want[1].Bytes) {
		t.Errorf("writing into one datagram changed the other: %x", sent[1].Bytes)
	}
	s.brings(1, piece(0, 8, "ijklmnop"))
	_, later, _ := s.Read(5, 0, 9)
	spoilSent(sent)
	if !sameSent(later, []api.Sent{pieceNews(1, 5, 0, 24), dataNews(1, 5, 24)}) {
		t.Errorf("writing into an answer changed another: %x", later)
	}
}

// What was lent to Receive and spoiled behind it is not what is read.
func TestP2WhatIsReadIsNotTheDatagram(t *testing.T) {
	s := opened(t, config())
	lent := data(5, 0, piece(0, 0, "abcdefgh"))
	before := bytes.Clone(lent)
	s.Receive(1, lent)
	got, _, _ := s.Read(5, 0, 9)
	spoil(got.Bytes)
	if !bytes.Equal(lent, before) {
		t.Errorf("writing into what was read made %x of the datagram %x", lent, before)
	}
	lent = data(5, 1, piece(0, 8, "ijk"))
	s.Receive(1, lent)
	spoil(lent)
	s.reads(5, 0, 9, text("ijk"), dataNews(1, 5, 27))
}
