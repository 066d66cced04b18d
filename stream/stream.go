// Package stream: what is known of one stream.
package stream

import (
	"cmp"

	"cistern/api"
	"cistern/credit"
	"cistern/runs"
	"cistern/wire"
)

// Stream is a stream that is not done.
type Stream struct {
	received runs.Runs[byte] // and not read yet
	read     int             // how much was read from its front
	highest  int             // the greatest end of what was received; also a Reset's final size
	credit   credit.Credit
	final    int  // the final size, if it is known
	known    bool // whether it is
	reset    bool
}

// New makes a stream of which nothing came. Its credit goes so far beyond what was read.
func New(ahead int) *Stream { return &Stream{credit: credit.New(ahead)} }

// BytesRead tells how much was read from its front.
func (s *Stream) BytesRead() int { return s.read }

// Highest tells the greatest end that came.
func (s *Stream) Highest() int { return s.highest }

// Buffered tells how many bytes are received and not read yet.
func (s *Stream) Buffered() int { return s.received.Size() }

// Take deals with a frame of this stream: Stream, Last or Reset. The highest may grow by room, and what is received may lie in as many runs as gaps says. It answers the code of a breach, or 0.
func (s *Stream) Take(f wire.Frame, room int, gaps int) int {
	// cmp.Or answers the first breach: the order in which the document names them.
	if code := cmp.Or(s.checkEnd(f), s.checkCredit(f.End, room)); code != 0 {
		return code
	}
	if code := s.receive(f, gaps); code != 0 {
		return code
	}
	s.highest = max(s.highest, f.End)
	if f.TellsFinal() {
		s.final, s.known = f.End, true
	}
	if f.Type == api.Reset {
		s.giveUp()
	}
	return 0
}

// checkEnd holds the frame's end against the final size and what came.
func (s *Stream) checkEnd(f wire.Frame) int {
	if s.known {
		return checkFinal(f, s.final)
	}
	if f.TellsFinal() && f.End < s.highest {
		return api.BadFinal
	}
	return 0
}

// checkFinal holds the frame's end against a final size that is known; nothing that came goes beyond that.
func checkFinal(f wire.Frame, final int) int {
	if f.End > final || f.TellsFinal() && f.End != final {
		return api.BadFinal
	}
	return 0
}

func (s *Stream) checkCredit(end int, room int) int {
	if end > s.credit.Bytes() || end-s.highest > room {
		return api.BadCredit
	}
	return 0
}

// receive keeps a copy of the frame's bytes that are not read yet (a Reset has none).
func (s *Stream) receive(f wire.Frame, gaps int) int {
	if s.reset {
		return 0
	}
	skip := min(max(s.read-f.Offset, 0), len(f.Bytes))
	first, fresh := f.Offset+skip, f.Bytes[skip:]
	if !s.received.Agrees(first, fresh) {
		return api.BadBytes
	}
	s.received.Fill(first, fresh)
	if s.received.Count() > gaps {
		return api.BadGaps
	}
	return 0
}

// giveUp forgets what was received, unless that is all up to the final size: then nothing is missing, and it stays to be read.
func (s *Stream) giveUp() {
	if s.received.Covers(s.read, s.final) {
		return
	}
	s.reset = true
	s.received = runs.Runs[byte]{}
}

// Read takes the next bytes, at most so many. With End or Reset the stream is done.
func (s *Stream) Read(most int) api.Got {
	if s.reset {
		return api.Got{Reset: true}
	}
	b := s.received.Take(s.read, most)
	s.read += len(b)
	return api.Got{Bytes: b, End: s.known && s.read == s.final}
}

// Credit tells how many bytes may be sent.
func (s *Stream) Credit() int { return s.credit.Bytes() }

// RaiseCredit lets the credit follow what was read, and tells whether it is more now. A client that has told the final size needs no more.
func (s *Stream) RaiseCredit() bool { return !s.known && s.credit.Follow(s.read) }
