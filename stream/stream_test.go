package stream

import (
	"testing"

	"cistern/api"
	"cistern/credit"
	"cistern/wire"
)

func piece(kind int, offset int, text string) wire.Frame {
	return wire.Frame{Type: kind, Offset: offset, Bytes: []byte(text), End: offset + len(text)}
}

// readUpTo is a stream of which so much was read, without a gap ahead of it.
func readUpTo(place int) *Stream {
	return &Stream{credit: credit.New(100), read: place, highest: place}
}

func take(t *testing.T, s *Stream, f wire.Frame, code int, buffered int) {
	t.Helper()
	if got := s.Take(f, 1000, 2); got != code {
		t.Fatalf("Take(%+v) = %d, want %d", f, got, code)
	}
	if s.Buffered() != buffered {
		t.Fatalf("behind %+v: %d buffered, want %d", f, s.Buffered(), buffered)
	}
}

// What was read is received no more, and is not held against what comes.
func TestPiecesBelowWhatWasRead(t *testing.T) {
	s := readUpTo(5)
	take(t, s, piece(api.Stream, 0, "abc"), 0, 0)
	take(t, s, piece(api.Stream, 2, "xyz"), 0, 0)
	take(t, s, piece(api.Stream, 5, ""), 0, 0)
	take(t, s, piece(api.Stream, 3, "xyfg"), 0, 2)
	take(t, s, piece(api.Stream, 4, "!fgh"), 0, 3)
	take(t, s, piece(api.Stream, 4, "!fx"), api.BadBytes, 3)
	if s.Highest() != 8 {
		t.Errorf("Highest() = %d, want 8", s.Highest())
	}
	// runs below what was read are none
	s = readUpTo(5)
	take(t, s, piece(api.Stream, 0, "a"), 0, 0)
	take(t, s, piece(api.Stream, 2, "c"), 0, 0)
	take(t, s, piece(api.Stream, 6, "g"), 0, 1)
	take(t, s, piece(api.Stream, 8, "i"), 0, 2)
	take(t, s, piece(api.Stream, 10, "k"), api.BadGaps, 3)
}

// All was received, if every byte is there from what was read to the end.
func TestResetBehindWhatWasRead(t *testing.T) {
	for _, x := range []struct {
		frames   []wire.Frame
		end      int
		buffered int
		reset    bool
	}{
		{nil, 5, 0, false},
		{nil, 6, 0, true},
		{[]wire.Frame{piece(api.Stream, 5, "fgh")}, 8, 3, false},
		{[]wire.Frame{piece(api.Stream, 5, "fgh")}, 9, 0, true},
		{[]wire.Frame{piece(api.Stream, 6, "gh")}, 8, 0, true},
		{[]wire.Frame{piece(api.Last, 5, "fgh")}, 8, 3, false},
	} {
		s := readUpTo(5)
		for _, f := range x.frames {
			take(t, s, f, 0, len(f.Bytes))
		}
		take(t, s, wire.Frame{Type: api.Reset, End: x.end}, 0, x.buffered)
		if s.reset != x.reset || s.Highest() != x.end {
			t.Errorf("Reset at %d behind %v: reset %t, highest %d", x.end, x.frames, s.reset, s.Highest())
		}
	}
}

// A stream that is done: nothing changes, and only a wrong end is a breach.
func TestStreamsThatAreDone(t *testing.T) {
	for _, done := range []Done{{final: 8}, {final: 8, reset: true}} {
		for _, x := range []struct {
			f    wire.Frame
			code int
		}{
			{piece(api.Stream, 0, "anything"), 0},
			{piece(api.Stream, 3, ""), 0},
			{piece(api.Stream, 8, ""), 0},
			{piece(api.Last, 8, ""), 0},
			{piece(api.Last, 2, "anythi"), 0},
			{wire.Frame{Type: api.Reset, End: 8}, 0},
			{piece(api.Stream, 8, "x"), api.BadFinal},
			{piece(api.Stream, 1000, ""), api.BadFinal},
			{piece(api.Last, 7, ""), api.BadFinal},
			{piece(api.Last, 9, ""), api.BadFinal},
			{wire.Frame{Type: api.Reset, End: 7}, api.BadFinal},
			{wire.Frame{Type: api.Reset, End: 9}, api.BadFinal},
		} {
			if code := done.Take(x.f); code != x.code {
				t.Errorf("Take(%+v) of %+v = %d, want %d", x.f, done, code, x.code)
			}
		}
	}
}

// The room is what HIGHEST may grow by, not where the frame may end.
func TestRoomOfAllStreams(t *testing.T) {
	for room, want := range map[int]int{0: api.BadCredit, 2: api.BadCredit, 3: 0} {
		if code := readUpTo(5).Take(piece(api.Stream, 8, ""), room, 1); code != want {
			t.Errorf("room %d: %d, want %d", room, code, want)
		}
	}
	if code := readUpTo(5).Take(piece(api.Stream, 0, "abcde"), 0, 1); code != 0 {
		t.Errorf("what came already: %d", code)
	}
}

// reads reads from a stream that is not done.
func reads(t *testing.T, s *Stream, most int, want string, end bool, buffered int) {
	t.Helper()
	got := s.Read(most)
	if string(got.Bytes) != want || got.End != end || got.Reset || s.Buffered() != buffered {
		t.Fatalf("Read(%d) = %+v, with %d left, want %q, %t, with %d left", most, got, s.Buffered(), want, end, buffered)
	}
}

func TestReadUpToTheEnd(t *testing.T) {
	s := New(100)
	reads(t, s, 9, "", false, 0)
	take(t, s, piece(api.Stream, 3, "def"), 0, 3)
	reads(t, s, 9, "", false, 3)
	take(t, s, piece(api.Stream, 0, "abc"), 0, 6)
	reads(t, s, 0, "", false, 6)
	reads(t, s, 2, "ab", false, 4)
	take(t, s, piece(api.Last, 0, "??cdefgh"), 0, 6)
	reads(t, s, 5, "cdefg", false, 1)
	if s.BytesRead() != 7 || s.Highest() != 8 {
		t.Errorf("%d of %d bytes were read", s.BytesRead(), s.Highest())
	}
	reads(t, s, 1, "h", true, 0)
	if d := s.Done(); d != (Done{final: 8}) || d.Final() != 8 || !d.Read().End || d.Read().Reset {
		t.Errorf("done: %+v", d)
	}
}

func TestReadOfAReset(t *testing.T) {
	s := New(100)
	take(t, s, piece(api.Stream, 0, "abcdef"), 0, 6)
	reads(t, s, 2, "ab", false, 4)
	take(t, s, wire.Frame{Type: api.Reset, End: 9}, 0, 0)
	if got := s.Read(9); len(got.Bytes) > 0 || got.End || !got.Reset || s.BytesRead() != 2 {
		t.Errorf("Read(9) = %+v, behind %d bytes", got, s.BytesRead())
	}
	if d := s.Done(); d != (Done{final: 9, reset: true}) || d.Final() != 9 || d.Read().End || !d.Read().Reset {
		t.Errorf("done: %+v", d)
	}
}

func TestCreditIsRaisedUntilTheFinalSizeIsKnown(t *testing.T) {
	s := New(8)
	take(t, s, piece(api.Stream, 0, "abcdefgh"), 0, 8)
	reads(t, s, 4, "abcd", false, 4)
	if s.RaiseCredit() || s.Credit() != 8 {
		t.Errorf("4 of 8 bytes: %d", s.Credit())
	}
	reads(t, s, 1, "e", false, 3)
	if !s.RaiseCredit() || s.Credit() != 13 {
		t.Errorf("5 of 8 bytes: %d", s.Credit())
	}
	take(t, s, piece(api.Last, 8, "ijklm"), 0, 8)
	reads(t, s, 7, "fghijkl", false, 1)
	if s.RaiseCredit() || s.Credit() != 13 {
		t.Errorf("12 of 13 bytes: %d", s.Credit())
	}
}
