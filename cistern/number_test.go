package cistern_test

import (
	"bytes"
	"math"
	"testing"

	"cistern/api"
	"cistern/cistern"
)

// written is what the document says of a number's bytes, in its own words: quotients and rests.
func written(n int) []byte {
	switch {
	case n < 64:
		return []byte{byte(n)}
	case n < 16384:
		return []byte{byte(64 + n/256), byte(n % 256)}
	}
	return []byte{byte(128 + n/16777216), byte(n / 65536 % 256), byte(n / 256 % 256), byte(n % 256)}
}

func checkNumber(t *testing.T, n int, want []byte) {
	t.Helper()
	b, e := cistern.PutNumber(n)
	if !bytes.Equal(b, want) || e != api.OK {
		t.Errorf("PutNumber(%d) = %v, %d, want %v", n, b, e, want)
	}
	for _, behind := range [][]byte{nil, {0}, {255, 255, 255, 255}} {
		m, size, e := cistern.GetNumber(append(bytes.Clone(want), behind...))
		if m != n || size != len(want) || e != api.OK {
			t.Errorf("GetNumber(%v, then %v) = %d, %d, %d, want %d, %d", want, behind, m, size, e, n, len(want))
		}
	}
}

func TestP3NumbersAsTheDocumentWritesThem(t *testing.T) {
	for _, x := range []struct {
		n    int
		want []byte
	}{
		{0, []byte{0}},
		{1, []byte{1}},
		{63, []byte{63}},
		{64, []byte{64, 64}},
		{300, []byte{65, 44}},
		{16383, []byte{127, 255}},
		{16384, []byte{128, 0, 64, 0}},
		{65536, []byte{128, 1, 0, 0}},
		{16909060, []byte{129, 2, 3, 4}},
		{1073741822, []byte{191, 255, 255, 254}},
		{1073741823, []byte{191, 255, 255, 255}},
	} {
		checkNumber(t, x.n, x.want)
	}
}

func TestP3ManyNumbers(t *testing.T) {
	for n := range 70000 {
		checkNumber(t, n, written(n))
	}
	for n := 70000; n <= api.MaxNumber; n += 99991 {
		checkNumber(t, n, written(n))
	}
}

func TestP3NumbersOutOfRange(t *testing.T) {
	for _, n := range []int{-1, -64, -1073741824, 1073741824, 1073741825, 1 << 32, 1<<32 + 5, math.MaxInt, math.MinInt} {
		if b, e := cistern.PutNumber(n); len(b) != 0 || e != api.ErrArg {
			t.Errorf("PutNumber(%d) = %v, %d, want ErrArg alone", n, b, e)
		}
	}
}

func TestP3NumbersInMoreBytesThanNeedBe(t *testing.T) {
	for _, x := range []struct {
		bytes   []byte
		n, size int
	}{
		{[]byte{64, 0}, 0, 2},
		{[]byte{64, 63}, 63, 2},
		{[]byte{128, 0, 0, 0}, 0, 4},
		{[]byte{128, 0, 0, 63}, 63, 4},
		{[]byte{128, 0, 0, 64, 7}, 64, 4},
		{[]byte{128, 0, 63, 255}, 16383, 4},
	} {
		n, size, e := cistern.GetNumber(x.bytes)
		if n != x.n || size != x.size || e != api.OK {
			t.Errorf("GetNumber(%v) = %d, %d, %d, want %d, %d", x.bytes, n, size, e, x.n, x.size)
		}
	}
}

// Each first byte, with each count of bytes that can matter: too few of them, just enough, more.
func TestP3EveryFirstByte(t *testing.T) {
	for first := range 256 {
		b := []byte{byte(first), 1, 2, 3, 4, 5, 6, 7}
		n, size := first, 1
		switch {
		case first >= 192:
			n, size = 0, 0
		case first >= 128:
			n, size = (first-128)*16777216+1*65536+2*256+3, 4
		case first >= 64:
			n, size = (first-64)*256+1, 2
		}
		for count := range len(b) + 1 {
			wantN, wantSize, wantErr := n, size, api.OK
			if size == 0 || count < size {
				wantN, wantSize, wantErr = 0, 0, api.ErrArg
			}
			gotN, gotSize, e := cistern.GetNumber(b[:count:count])
			if gotN != wantN || gotSize != wantSize || e != wantErr {
				t.Errorf("GetNumber(%v) = %d, %d, %d, want %d, %d, %d", b[:count], gotN, gotSize, e, wantN, wantSize, wantErr)
			}
		}
	}
	if n, size, e := cistern.GetNumber(nil); n != 0 || size != 0 || e != api.ErrArg {
		t.Errorf("GetNumber(nil) = %d, %d, %d, want ErrArg alone", n, size, e)
	}
}

// The bytes in the spare room are no part of the list: they neither count nor change.
func TestP2GetNumberLeavesItsBytesAlone(t *testing.T) {
	for _, first := range []byte{5, 64, 128, 192, 255} {
		whole := []byte{first, 1, 2, 3, 4, 5}
		before := bytes.Clone(whole)
		for count := range len(whole) + 1 {
			n, size, e := cistern.GetNumber(whole[:count])
			n2, size2, e2 := cistern.GetNumber(whole[:count:count])
			if n != n2 || size != size2 || e != e2 {
				t.Errorf("GetNumber(%v) hangs on the spare room", whole[:count])
			}
			if !bytes.Equal(whole, before) {
				t.Fatalf("GetNumber of %d bytes made %v of %v", count, whole, before)
			}
		}
	}
}

func TestP2PutNumberAnswersFreshBytes(t *testing.T) {
	for _, n := range []int{0, 63, 64, 16383, 16384, 1073741823} {
		checkFresh(t, written(n), func() []byte {
			b, _ := cistern.PutNumber(n)
			return b
		})
	}
}

// checkFresh writes into what one call answered, spare room and all, and looks at what came out before and comes out after.
func checkFresh(t *testing.T, want []byte, call func() []byte) {
	t.Helper()
	before, spoiled := call(), call()
	spoiled = spoiled[:cap(spoiled)]
	for i := range spoiled {
		spoiled[i] ^= 255
	}
	if after := call(); !bytes.Equal(before, want) || !bytes.Equal(after, want) {
		t.Errorf("writing into an answer changed others: %v, %v, want %v", before, after, want)
	}
}
