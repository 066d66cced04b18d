// Package wire: how numbers, tokens, proofs, datagrams and frames are written as bytes, and read.
package wire

import "strconv"

// The first byte's two high bits tell how many bytes a number has; the six below them belong to the number.
const (
	markTwo  = 64
	markFour = 128
	markNone = 192
	lowBits  = 63
)

// A number of as many bytes is below these.
const (
	belowOne = 64
	belowTwo = 16384
)

// AppendNumber writes n behind b, in as few bytes as may be. The caller has seen to it that n is 0 to api.MaxNumber.
func AppendNumber(b []byte, n int) []byte {
	switch {
	case n < belowOne:
		return append(b, byte(n))
	case n < belowTwo:
		return append(b, byte(markTwo|n>>8), byte(n))
	default:
		return append(b, byte(markFour|n>>24), byte(n>>16), byte(n>>8), byte(n))
	}
}

// ReadNumber reads the number at the front of b, and tells how many bytes it has. Its error holds a *None.
func ReadNumber(b []byte) (n int, size int, err error) {
	size, err = numberSize(b)
	if err != nil {
		return 0, 0, &Within{Part: "number", Cause: err}
	}
	n = int(b[0] & lowBits)
	for _, c := range b[1:size] {
		n = n<<8 | int(c)
	}
	return n, size, nil
}

// numberSize tells how many bytes the number at the front of b has, all of which are there.
func numberSize(b []byte) (int, error) {
	if len(b) == 0 {
		return 0, &None{Why: "no bytes"}
	}
	size := sizeByFirst(b[0])
	if size == 0 {
		return 0, &None{Why: "first byte " + strconv.Itoa(int(b[0]))}
	}
	if len(b) < size {
		return 0, tooFew(len(b), size)
	}
	return size, nil
}

// sizeByFirst tells how many bytes a number with this first byte has; 0, if there is none such.
func sizeByFirst(first byte) int {
	switch {
	case first < markTwo:
		return 1
	case first < markFour:
		return 2
	case first < markNone:
		return 4
	default:
		return 0
	}
}
