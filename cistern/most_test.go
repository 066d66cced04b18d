package cistern_test

import (
	"testing"

	"cistern/api"
)

const most = 1073741823

// raised is what a credit is behind a Read, and whether it is told.
func raised(credit, read, ahead int) (int, bool) {
	if credit >= read+ahead/2 || credit == most {
		return credit, false
	}
	return min(read+ahead, most), true
}

// The connection's credit goes up to the greatest number and no further; it is reached by streams that are reset.
func TestP6DataUpToTheGreatestNumber(t *testing.T) {
	t.Parallel()
	s := opened(t, sized(4096, 4096, 1))
	credit := 4096
	for id := range 262143 {
		s.brings(id, reset(id, 4096))
		var sent []api.Sent
		var news bool
		if credit, news = raised(credit, 4096*(id+1), 4096); news {
			sent = append(sent, dataNews(1, 5, credit))
		}
		s.reads(5, id, 9, gaveUp(), append(sent, streamsNews(1, 5, id+2))...)
	}
	s.looks(5, api.Look{Proven: true, GotBytes: s.gotBytes(), SentBytes: s.sentBytes(), Credit: most, Limit: 262144})
	s.brings(262143, reset(262143, 4095))
	s.reads(5, 262143, 9, gaveUp(), streamsNews(1, 5, 262145))
	s.brings(262144, last(262144, 0, "")) // nothing more may be sent, but a stream of nothing
	s.reads(5, 262144, 9, ended(""), streamsNews(1, 5, 262146))
	s.receives(1, data(5, 262145, piece(262145, 0, "x")), closed(1, 5, 3))
}

// The stream's does, too; it is reached by reading.
func TestP6PieceUpToTheGreatestNumber(t *testing.T) {
	t.Parallel()
	s := opened(t, sized(4096, 4096, 1))
	whole := string(make([]byte, 4096))
	for at := 0; at < 262143*4096; at += 4096 {
		b := data(5, at/4096, piece(0, at, whole))
		if sent := s.Receive(1, b); len(sent) > 0 {
			t.Fatalf("at %d: sent %x", at, sent)
		}
		credit := min(at+2*4096, most)
		want := []api.Sent{pieceNews(1, 5, 0, credit), dataNews(1, 5, credit)}
		got, sent, e := s.Read(5, 0, 4096)
		if len(got.Bytes) != 4096 || !sameSent(sent, want) || e != api.OK {
			t.Fatalf("at %d: %d bytes, sent %x, want %x", at, len(got.Bytes), sent, want)
		}
	}
	s.brings(300000, piece(0, 262143*4096, whole[:4095]))
	s.reads(5, 0, 9999, text(whole[:4095])) // nothing is told any more
	s.brings(300001, piece(0, most, ""))
	s.receives(1, data(5, 300002, piece(0, most, "x")), closed(1, 5, 3))
}
