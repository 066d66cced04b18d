package stream

import (
	"testing"

	"cistern/api"
	"cistern/wire"
)

func piece(kind int, offset int, text string) wire.Frame {
	return wire.Frame{Type: kind, Offset: offset, Bytes: []byte(text), End: offset + len(text)}
}

// readUpTo is a stream of which so much was read, without a gap ahead of it.
func readUpTo(place int) *Stream {
	return &Stream{credit: 100, read: place, highest: place}
}

func take(t *testing.T, s *Stream, f wire.Frame, code int, buffered int) {
	t.Helper()
	if got := s.Take(f, 1000, 2); got != code {
		t.Fatalf("Take(%+v) = %d, want %d", f, got, code)
	}
	if s.Buffered() != buffered {
		t.Fatalf("behind %+v: %d buffered, want %d", f, s.Buffered(), buffered)
	}
}

// What was read is received no more, and is not held against what comes.
func TestPiecesBelowWhatWasRead(t *testing.T) {
	s := readUpTo(5)
	take(t, s, piece(api.Stream, 0, "abc"), 0, 0)
	take(t, s, piece(api.Stream, 2, "xyz"), 0, 0)
	take(t, s, piece(api.Stream, 5, ""), 0, 0)
	take(t, s, piece(api.Stream, 3, "xyfg"), 0, 2)
	take(t, s, piece(api.Stream, 4, "!fgh"), 0, 3)
	take(t, s, piece(api.Stream, 4, "!fx"), api.BadBytes, 3)
	if s.Highest() != 8 {
		t.Errorf("Highest() = %d, want 8", s.Highest())
	}
	// runs below what was read are none
	s = readUpTo(5)
	take(t, s, piece(api.Stream, 0, "a"), 0, 0)
	take(t, s, piece(api.Stream, 2, "c"), 0, 0)
	take(t, s, piece(api.Stream, 6, "g"), 0, 1)
	take(t, s, piece(api.Stream, 8, "i"), 0, 2)
	take(t, s, piece(api.Stream, 10, "k"), api.BadGaps, 3)
}

// All was received, if every byte is there from what was read to the end.
func TestResetBehindWhatWasRead(t *testing.T) {
	for _, x := range []struct {
		frames   []wire.Frame
		end      int
		buffered int
		reset    bool
	}{
		{nil, 5, 0, false},
		{nil, 6, 0, true},
		{[]wire.Frame{piece(api.Stream, 5, "fgh")}, 8, 3, false},
		{[]wire.Frame{piece(api.Stream, 5, "fgh")}, 9, 0, true},
		{[]wire.Frame{piece(api.Stream, 6, "gh")}, 8, 0, true},
		{[]wire.Frame{piece(api.Last, 5, "fgh")}, 8, 3, false},
	} {
		s := readUpTo(5)
		for _, f := range x.frames {
			take(t, s, f, 0, len(f.Bytes))
		}
		take(t, s, wire.Frame{Type: api.Reset, End: x.end}, 0, x.buffered)
		if s.reset != x.reset || s.Highest() != x.end {
			t.Errorf("Reset at %d behind %v: reset %t, highest %d", x.end, x.frames, s.reset, s.Highest())
		}
	}
}

// A stream that is done: nothing changes, and only a wrong end is a breach.
func TestStreamsThatAreDone(t *testing.T) {
	for _, done := range []Stream{
		{credit: 8, read: 8, highest: 8, final: 8, known: true},
		{credit: 8, read: 3, highest: 8, final: 8, known: true, reset: true},
	} {
		for _, x := range []struct {
			f    wire.Frame
			code int
		}{
			{piece(api.Stream, 0, "anything"), 0},
			{piece(api.Stream, 3, ""), 0},
			{piece(api.Stream, 8, ""), 0},
			{piece(api.Last, 8, ""), 0},
			{piece(api.Last, 2, "anythi"), 0},
			{wire.Frame{Type: api.Reset, End: 8}, 0},
			{piece(api.Stream, 8, "x"), api.BadFinal},
			{piece(api.Stream, 1000, ""), api.BadFinal},
			{piece(api.Last, 7, ""), api.BadFinal},
			{piece(api.Last, 9, ""), api.BadFinal},
			{wire.Frame{Type: api.Reset, End: 7}, api.BadFinal},
			{wire.Frame{Type: api.Reset, End: 9}, api.BadFinal},
		} {
			s := done
			code := s.Take(x.f, 0, 1)
			unchanged := s.read == done.read && s.highest == done.highest && s.final == done.final && s.reset == done.reset && s.Buffered() == 0
			if code != x.code || !unchanged {
				t.Errorf("Take(%+v) of %+v = %d, want %d, and it is %+v", x.f, done, code, x.code, s)
			}
		}
	}
}

// The room is what HIGHEST may grow by, not where the frame may end.
func TestRoomOfAllStreams(t *testing.T) {
	for room, want := range map[int]int{0: api.BadCredit, 2: api.BadCredit, 3: 0} {
		if code := readUpTo(5).Take(piece(api.Stream, 8, ""), room, 1); code != want {
			t.Errorf("room %d: %d, want %d", room, code, want)
		}
	}
	if code := readUpTo(5).Take(piece(api.Stream, 0, "abcde"), 0, 1); code != 0 {
		t.Errorf("what came already: %d", code)
	}
}
