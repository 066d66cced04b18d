package wire_test

import (
	"errors"
	"testing"

	"cistern/wire"
)

// Ways: what is no number is told by a wrapped error, and found again with errors.As.
func TestNoNumberIsFoundInWrappedErrors(t *testing.T) {
	for _, x := range []struct {
		bytes, why string
	}{
		{"", "no bytes"},
		{"\x40", "1 of 2 bytes"},
		{"\x80\x00\x00", "3 of 4 bytes"},
		{"\xc0\x00\x00\x00", "first byte 192"},
		{"\xff", "first byte 255"},
	} {
		n, size, err := wire.ReadNumber([]byte(x.bytes))
		if n != 0 || size != 0 || err == nil {
			t.Errorf("ReadNumber(%x) = %d, %d, %v, want an error alone", x.bytes, n, size, err)
			continue
		}
		var within *wire.Within
		if !errors.As(err, &within) || within.Part != "number" {
			t.Errorf("ReadNumber(%x): %v is not wrapped as a number's", x.bytes, err)
		}
		outer := &wire.Within{Part: "cid", Cause: err}
		var none *wire.None
		if !errors.As(outer, &none) || none.Why != x.why {
			t.Errorf("ReadNumber(%x): found %v, want %q", x.bytes, none, x.why)
		}
		if want := "cid: number: " + x.why; outer.Error() != want {
			t.Errorf("ReadNumber(%x): told %q, want %q", x.bytes, outer.Error(), want)
		}
	}
	if _, _, err := wire.ReadNumber([]byte{5}); err != nil {
		t.Errorf("ReadNumber(05): %v", err)
	}
}

func TestAppendNumberKeepsWhatIsAhead(t *testing.T) {
	b := wire.AppendNumber([]byte{9, 8}, 300)
	if string(b) != "\x09\x08\x41\x2c" {
		t.Errorf("AppendNumber = %x", b)
	}
}

// The sums are those that are published with FNV-1a.
func TestSum(t *testing.T) {
	for text, want := range map[string]uint32{"": 2166136261, "a": 0xe40c292c, "foobar": 0xbf9cf968} {
		if got := wire.Sum([]byte(text)); got != want {
			t.Errorf("Sum(%q) = %x, want %x", text, got, want)
		}
	}
}
