package cistern_test

import (
	"strings"
	"testing"

	"cistern/api"
)

// sized: a config of which only one credit is narrow.
func sized(window, piece, streams int) api.Config {
	c := config()
	c.Window, c.Piece, c.Streams, c.Memory = window, piece, streams, 100000
	return c
}

// Piece is told when less than half of it (rounded down) is left beyond what was read, and not a byte before.
func TestP6PieceAtItsEdge(t *testing.T) {
	for _, x := range []struct{ piece, least int }{{8, 5}, {9, 6}, {10, 6}, {11, 7}, {31, 17}, {32, 17}, {4096, 2049}, {4095, 2049}} {
		c := sized(4096, x.piece, 2)
		whole := strings.Repeat("x", x.piece)
		// in one Read: one byte less than is needed, just as many, and all
		for _, most := range []int{x.least - 1, x.least, x.piece} {
			s := opened(t, c)
			s.brings(0, piece(1, 0, whole))
			var sent []api.Sent
			if most >= x.least {
				sent = append(sent, pieceNews(1, 5, 1, most+x.piece))
			}
			if c.Window < most+c.Window/2 {
				sent = append(sent, dataNews(1, 5, most+c.Window))
			}
			s.reads(5, 1, most, text(whole[:most]), sent...)
			s.reads(5, 1, 0, text("")) // it is told once
			s.reads(5, 0, 9, text("")) // and the other stream is another one
		}
	}
}

// The same byte by byte, over several raises.
func TestP6PieceAgainAndAgain(t *testing.T) {
	for _, size := range []int{8, 9, 10, 13} {
		s := opened(t, sized(4096, size, 1))
		credit := size
		for at := range 10 * size {
			s.brings(at, piece(0, at, "x"))
			if credit < at+1+size/2 {
				credit = at + 1 + size
				s.reads(5, 0, 1, text("x"), pieceNews(1, 5, 0, credit))
			} else {
				s.reads(5, 0, 1, text("x"))
			}
		}
		// what the client may send then, to the byte
		s.brings(500, piece(0, credit, ""))
		s.receives(1, data(5, 501, piece(0, credit+1, "")), closed(1, 5, 3))
	}
}

// A credit goes up for its own stream alone, and by what was read, not by what came.
func TestP6WhatMayBeSentThen(t *testing.T) {
	for _, x := range []struct {
		id, most, credit int
		news             bool
	}{{0, 4, 8, false}, {0, 5, 13, true}, {0, 7, 15, true}, {0, 8, 16, true}, {1, 8, 8, false}} {
		for _, frame := range []func(size int) []byte{
			func(size int) []byte { return piece(0, size, "") },
			func(size int) []byte { return piece(0, size-1, "?") },
			func(size int) []byte { return last(0, size, "") },
			func(size int) []byte { return reset(0, size) },
		} {
			for beyond, sent := range [][]api.Sent{nil, {closed(1, 5, 3)}} {
				s := opened(t, sized(64, 8, 2))
				s.brings(0, piece(0, 0, "abcdefg?"), piece(1, 0, "abcdefg?"))
				var told []api.Sent
				if x.news {
					told = append(told, pieceNews(1, 5, 0, x.credit))
				} else if x.id == 1 {
					told = append(told, pieceNews(1, 5, 1, 16))
				}
				s.reads(5, x.id, x.most, text("abcdefg?"[:x.most]), told...)
				s.receives(1, data(5, 1, frame(x.credit+beyond)), sent...)
			}
		}
	}
}

// A client that has told the final size is told no credit of that stream any more.
func TestP6NoPieceWhereTheFinalSizeIsKnown(t *testing.T) {
	s := opened(t, sized(64, 8, 4))
	s.brings(0, last(0, 0, "abcdefgh"))
	s.reads(5, 0, 7, text("abcdefg"))
	s.reads(5, 0, 7, ended("h"), streamsNews(1, 5, 5))
	s.brings(1, last(1, 8, ""), piece(1, 0, "abcdefg"))
	s.reads(5, 1, 9, text("abcdefg"))
	s.brings(2, piece(2, 0, "abcdefgh"), reset(2, 8))
	s.reads(5, 2, 7, text("abcdefg"))
	s.brings(3, piece(3, 0, "abcdefg"))
	s.reads(5, 3, 7, text("abcdefg"), pieceNews(1, 5, 3, 15))
	s.brings(4, reset(3, 15))
	s.reads(5, 3, 7, gaveUp(), dataNews(1, 5, 8+7+7+15+64), streamsNews(1, 5, 6))
	// it is known only now, and what was read before did not do
	s = opened(t, sized(64, 8, 1))
	s.brings(0, piece(0, 0, "abcdefgh"))
	s.reads(5, 0, 4, text("abcd"))
	s.brings(1, last(0, 8, ""))
	s.reads(5, 0, 3, text("efg"))
}

// Data is told when less than half of Window (rounded down) is left beyond what was read of all streams.
func TestP6DataAtItsEdge(t *testing.T) {
	for _, x := range []struct{ window, least int }{{16, 9}, {17, 10}, {18, 10}, {19, 11}, {64, 33}, {65, 34}} {
		c := sized(x.window, x.window, 2)
		whole := strings.Repeat("x", x.window)
		for _, most := range []int{x.least - 1, x.least, x.window} {
			s := opened(t, c)
			s.brings(0, last(0, 0, whole)) // with its end, so that Piece is not told
			switch {
			case most < x.least:
				s.reads(5, 0, most, text(whole[:most]))
				s.reads(5, 0, 1, text("x"), dataNews(1, 5, x.least+x.window))
			case most < x.window:
				s.reads(5, 0, most, text(whole[:most]), dataNews(1, 5, most+x.window))
			default:
				s.reads(5, 0, most, ended(whole), dataNews(1, 5, most+x.window), streamsNews(1, 5, 3))
			}
			s.reads(5, 1, 0, text("")) // it is told once
		}
	}
}

// It counts what was read of all streams, also of those that are done.
func TestP6DataOfAllStreams(t *testing.T) {
	s := opened(t, sized(17, 17, 3))
	s.brings(0, last(0, 0, "abc"), piece(1, 0, "abcd"), piece(2, 0, "abcdef"))
	s.reads(5, 0, 9, ended("abc"), streamsNews(1, 5, 4))
	s.reads(5, 1, 9, text("abcd"))
	s.reads(5, 2, 2, text("ab"))
	s.looks(5, api.Look{Proven: true, GotBytes: s.gotBytes(), SentBytes: 14, Credit: 17, Limit: 4, Buffered: 4})
	s.reads(5, 2, 1, text("c"), dataNews(1, 5, 27))
	s.looks(5, api.Look{Proven: true, GotBytes: s.gotBytes(), SentBytes: 18, Credit: 27, Limit: 4, Buffered: 3})
	s.reads(5, 2, 9, text("def"))
	// to the byte: 13 of 27 came
	s.brings(1, piece(3, 14, ""))
	s.receives(1, data(5, 2, piece(3, 15, "")), closed(1, 5, 3))
}

// What was reset counts as read when it is done, with all of its final size, and not before.
func TestP6DataOfAReset(t *testing.T) {
	for _, x := range []struct{ size, other int }{{6, 3}, {8, 1}} {
		s := opened(t, sized(16, 8, 2))
		s.brings(0, piece(0, 0, "ab"))
		s.reads(5, 0, 1, text("a"))
		s.brings(1, reset(0, x.size), piece(1, 0, "xyzxyzxy"))
		s.reads(5, 1, x.other, text("xyzxyzxy"[:x.other]))
		s.reads(5, 0, 9, gaveUp(), dataNews(1, 5, 9+16), streamsNews(1, 5, 3))
		s.reads(5, 0, 9, gaveUp())
		s.looks(5, api.Look{Proven: true, GotBytes: s.gotBytes(), SentBytes: 10 + 8, Credit: 25, Limit: 3, Buffered: 8 - x.other})
	}
	// one less
	s := opened(t, sized(16, 8, 2))
	s.brings(0, reset(0, 8))
	s.reads(5, 0, 9, gaveUp(), streamsNews(1, 5, 3))
	s.brings(1, piece(1, 0, "x"))
	s.reads(5, 1, 9, text("x"), dataNews(1, 5, 25))
	// what is reset, and not read yet, does not count
	s = opened(t, sized(16, 8, 2))
	s.brings(0, reset(0, 8), piece(1, 0, "abcd"))
	s.reads(5, 1, 9, text("abcd"))
	s.reads(5, 0, 0, gaveUp(), dataNews(1, 5, 28), streamsNews(1, 5, 3))
	// what may be sent then, to the byte
	s = opened(t, sized(16, 16, 2))
	s.brings(0, reset(0, 16))
	s.reads(5, 0, 9, gaveUp(), dataNews(1, 5, 32), streamsNews(1, 5, 3))
	s.brings(1, piece(1, 15, ""), piece(2, 1, ""))
	s.receives(1, data(5, 2, piece(1, 16, "")), closed(1, 5, 3))
}

// What is read of a stream before it is reset is not counted twice.
func TestP6DataOfAResetBehindBytes(t *testing.T) {
	s := opened(t, sized(16, 8, 3))
	s.brings(0, piece(0, 0, "abcd"))
	s.reads(5, 0, 9, text("abcd"))
	s.brings(1, reset(0, 6))
	s.reads(5, 0, 9, gaveUp(), streamsNews(1, 5, 4)) // 6, not 10
	s.brings(2, piece(1, 0, "xyz"))
	s.reads(5, 1, 2, text("xy"))
	s.reads(5, 1, 2, text("z"), dataNews(1, 5, 25))
}

// The three, where more than one is told: Piece, Data, Streams.
func TestP6OrderOfNews(t *testing.T) {
	s := opened(t, sized(8, 8, 2))
	s.brings(0, piece(0, 0, "abcdef"))
	s.reads(5, 0, 4, text("abcd"))
	s.reads(5, 0, 9, text("ef"), pieceNews(1, 5, 0, 14), dataNews(1, 5, 14))
	s.brings(1, last(1, 0, "abcde"))
	s.reads(5, 1, 9, ended("abcde"), dataNews(1, 5, 19), streamsNews(1, 5, 3))
	s.brings(2, reset(0, 13))
	s.reads(5, 0, 9, gaveUp(), dataNews(1, 5, 26), streamsNews(1, 5, 4))
	s.looks(5, api.Look{Proven: true, GotBytes: s.gotBytes(), SentBytes: 10 + 5 + 4*5, Credit: 26, Limit: 4})
}

// Each stream that becomes done makes room for one more, once; that one begins with a credit of its own.
func TestP6StreamsAreTold(t *testing.T) {
	c := sized(4096, 8, 2)
	s := opened(t, c)
	for id := range 100 {
		if id%3 == 0 {
			s.brings(3*id, reset(id, 8))
			s.reads(5, id, 9, gaveUp(), streamsNews(1, 5, 3+id))
			s.reads(5, id, 9, gaveUp())
		} else {
			s.brings(3*id, last(id, 0, "abcdefgh"))
			s.reads(5, id, 4, text("abcd"))
			s.reads(5, id, 4, ended("efgh"), streamsNews(1, 5, 3+id))
			s.reads(5, id, 4, ended(""))
		}
		s.brings(3*id+1, piece(id+2, 8, ""))
		s.refusesRead(5, id+3, 9, api.ErrArg)
	}
	s.receives(1, data(5, 900, piece(101, 9, "")), closed(1, 5, 3))
	s.opens(1, 5)
	s.brings(0, last(1, 0, ""))
	s.reads(5, 1, 9, ended(""), streamsNews(1, 5, 3))
	s.receives(1, data(5, 1, piece(3, 0, "")), closed(1, 5, 4))
}
