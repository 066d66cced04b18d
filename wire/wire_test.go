package wire_test

import (
	"errors"
	"testing"

	"cistern/wire"
)

// Ways: what is no number is told by a wrapped error, and found again with errors.As.
func TestNoNumberIsFoundInWrappedErrors(t *testing.T) {
	for _, x := range []struct {
		bytes, why string
	}{
		{"", "no bytes"},
		{"\x40", "1 of 2 bytes"},
		{"\x80\x00\x00", "3 of 4 bytes"},
		{"\xc0\x00\x00\x00", "first byte 192"},
		{"\xff", "first byte 255"},
	} {
		n, size, err := wire.ReadNumber([]byte(x.bytes))
		if n != 0 || size != 0 || err == nil {
			t.Errorf("ReadNumber(%x) = %d, %d, %v, want an error alone", x.bytes, n, size, err)
			continue
		}
		var within *wire.Within
		if !errors.As(err, &within) || within.Part != "number" {
			t.Errorf("ReadNumber(%x): %v is not wrapped as a number's", x.bytes, err)
		}
		outer := &wire.Within{Part: "cid", Cause: err}
		var none *wire.None
		if !errors.As(outer, &none) || none.Why != x.why {
			t.Errorf("ReadNumber(%x): found %v, want %q", x.bytes, none, x.why)
		}
		if want := "cid: number: " + x.why; outer.Error() != want {
			t.Errorf("ReadNumber(%x): told %q, want %q", x.bytes, outer.Error(), want)
		}
	}
	if _, _, err := wire.ReadNumber([]byte{5}); err != nil {
		t.Errorf("ReadNumber(05): %v", err)
	}
}

func TestAppendNumberKeepsWhatIsAhead(t *testing.T) {
	b := wire.AppendNumber([]byte{9, 8}, 300)
	if string(b) != "\x09\x08\x41\x2c" {
		t.Errorf("AppendNumber = %x", b)
	}
}

// The sums are those that are published with FNV-1a.
func TestSum(t *testing.T) {
	for text, want := range map[string]uint32{"": 2166136261, "a": 0xe40c292c, "foobar": 0xbf9cf968} {
		if got := wire.Sum([]byte(text)); got != want {
			t.Errorf("Sum(%q) = %x, want %x", text, got, want)
		}
	}
}

// Ways: what is no datagram, or no frame, is told by errors that tell the way to the part that is none.
func TestNoDatagramIsFoundInWrappedErrors(t *testing.T) {
	for bytes, want := range map[string]string{
		"":                     "datagram: kind: 0 of 1 bytes",
		"\x03\x05":             "datagram: kind: unknown: 3",
		"\x00":                 "datagram: kind: unknown: 0",
		"\x01":                 "datagram: cid: number: no bytes",
		"\x01\xc0\x00":         "datagram: cid: number: first byte 192",
		"\x01\x05\x40":         "datagram: token's length: number: 1 of 2 bytes",
		"\x01\x05\x03ab":       "datagram: token: 2 of 3 bytes",
		"\x02\x05":             "datagram: packet's number: number: no bytes",
		"\x02\x80\x00\x00\x01": "datagram: packet's number: number: no bytes",
	} {
		d, err := wire.ReadDatagram([]byte(bytes))
		if !wire.IsNone(err) || err.Error() != want {
			t.Errorf("ReadDatagram(%x): %v, want %q", bytes, err, want)
		}
		if d.Kind != 0 || d.Size != 0 || d.Cid != 0 || d.Packet != 0 || d.Token != nil || d.Frames != nil {
			t.Errorf("ReadDatagram(%x) = %+v beside an error", bytes, d)
		}
	}
}

func TestNoFrameIsFoundInWrappedErrors(t *testing.T) {
	for bytes, want := range map[string]string{
		"":                  "frame: type: 0 of 1 bytes",
		"\x02":              "frame: type: unknown: 2",
		"\x10":              "frame: type: unknown: 16",
		"\x03":              "frame: stream: number: no bytes",
		"\x03\x01\xff":      "frame: offset: number: first byte 255",
		"\x04\x01\x02":      "frame: length: number: no bytes",
		"\x04\x01\x02\x03a": "frame: bytes: 1 of 3 bytes",
		"\x05\x01\x40":      "frame: final size: number: 1 of 2 bytes",
		"\x06":              "frame: code: number: no bytes",
		"\x07\xc0":          "frame: proof: number: first byte 192",
	} {
		f, size, err := wire.ReadFrame([]byte(bytes))
		if !wire.IsNone(err) || err.Error() != want {
			t.Errorf("ReadFrame(%x): %v, want %q", bytes, err, want)
		}
		if size != 0 || f.Type != 0 || f.Stream != 0 || f.Bytes != nil || f.End != 0 {
			t.Errorf("ReadFrame(%x) = %+v, %d beside an error", bytes, f, size)
		}
	}
}

func TestOtherErrorsAreNotNone(t *testing.T) {
	if wire.IsNone(nil) || wire.IsNone(&wire.Within{Part: "frame", Cause: errors.New("other")}) {
		t.Errorf("a None was found where there is none")
	}
}

func TestReadDatagram(t *testing.T) {
	d, err := wire.ReadDatagram([]byte("\x01\x40\x05\x02ab\x00\xff"))
	if err != nil || d.Kind != 1 || d.Size != 8 || d.Cid != 5 || string(d.Token) != "ab" || d.Packet != 0 || string(d.Frames) != "\x00\xff" {
		t.Errorf("a hello: %+v, %v", d, err)
	}
	d, err = wire.ReadDatagram([]byte("\x02\x05\x41\x2c\x01"))
	if err != nil || d.Kind != 2 || d.Size != 5 || d.Cid != 5 || len(d.Token) != 0 || d.Packet != 300 || string(d.Frames) != "\x01" {
		t.Errorf("data: %+v, %v", d, err)
	}
}

func TestReadFrame(t *testing.T) {
	for _, x := range []struct {
		bytes string
		size  int
		want  wire.Frame
		tells bool
	}{
		{"\x00\xff", 1, wire.Frame{}, false},
		{"\x01", 1, wire.Frame{Type: 1}, false},
		{"\x03\x01\x40\x02\x03abcd", 8, wire.Frame{Type: 3, Stream: 1, Offset: 2, Bytes: []byte("abc"), End: 5}, false},
		{"\x04\x01\x02\x00\x01", 4, wire.Frame{Type: 4, Stream: 1, Offset: 2, End: 2}, true},
		{"\x05\x01\x02\x01", 3, wire.Frame{Type: 5, Stream: 1, End: 2}, true},
		{"\x06\x41\x2c\x01", 3, wire.Frame{Type: 6}, false},
		{"\x07\xbf\xff\xff\xff\x01", 5, wire.Frame{Type: 7, Proof: 1073741823}, false},
	} {
		f, size, err := wire.ReadFrame([]byte(x.bytes))
		same := f.Type == x.want.Type && f.Stream == x.want.Stream && f.Offset == x.want.Offset && string(f.Bytes) == string(x.want.Bytes) && f.End == x.want.End && f.Proof == x.want.Proof
		if err != nil || size != x.size || !same || f.TellsFinal() != x.tells {
			t.Errorf("ReadFrame(%x) = %+v, %d, %v, want %+v, %d", x.bytes, f, size, err, x.want, x.size)
		}
	}
}
