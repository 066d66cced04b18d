package wire

import (
	"bytes"

	"cistern/api"
)

// 32-bit FNV-1a.
const (
	sumStart  = 2166136261
	sumFactor = 16777619
)

// proofMark stands ahead of a proof's address, so that what is summed for a proof is longer than for any token.
const proofMark = 255

// tokenSize: the address, FOUR of the time, FOUR of the sum.
const tokenSize = 9

// Sum is the SUM of bytes.
func Sum(b []byte) uint32 {
	sum := uint32(sumStart)
	for _, c := range b {
		sum = (sum ^ uint32(c)) * sumFactor
	}
	return sum
}

// Token makes the token for an address, of a time. The caller has seen to it that each number is in its bounds.
func Token(key int, address int, time int) []byte {
	front := appendFour([]byte{byte(address)}, uint32(time))
	sum := Sum(append(appendFour(nil, uint32(key)), front...))
	return appendFour(front, sum)
}

// Proof makes the proof of the connection with this address and cid. The caller has seen to it that each number is in its bounds.
func Proof(key int, address int, cid int) int {
	b := appendFour(nil, uint32(key))
	b = append(b, proofMark, byte(address))
	b = appendFour(b, uint32(cid))
	return int(Sum(b) % (api.MaxNumber + 1))
}

// appendFour writes FOUR bytes of n behind b.
func appendFour(b []byte, n uint32) []byte {
	return append(b, byte(n), byte(n>>8), byte(n>>16), byte(n>>24))
}

// TokenHolds tells whether b is a token for an address, of a time that is not below now.
func TokenHolds(key int, address int, now int, b []byte) bool {
	if len(b) != tokenSize {
		return false
	}
	time := int(readFour(b[1:]))
	return time >= now && bytes.Equal(b, Token(key, address, time))
}

// readFour reads FOUR bytes at the front of b.
func readFour(b []byte) uint32 {
	return uint32(b[0]) | uint32(b[1])<<8 | uint32(b[2])<<16 | uint32(b[3])<<24
}
