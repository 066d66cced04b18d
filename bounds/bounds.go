// Package bounds: which numbers may be handed in.
package bounds

import "cistern/api"

// Bounds that the document gives, and that have no name in package api.
const (
	minPiece   = 8
	maxAddress = 255
	maxFour    = 4294967295 // what four bytes hold: a key, a token's time
)

type field struct {
	value, least, greatest int
}

// Config answers ErrConfig, if a field is out of its bounds.
func Config(c api.Config) api.Errno {
	fields := [...]field{
		{c.Conns, 1, api.MaxConns},
		{c.Window, api.MinWindow, api.MaxWindow},
		{c.Piece, minPiece, c.Window},
		{c.Streams, 1, api.MaxStreams},
		{c.Gaps, 1, api.MaxGaps},
		{c.Load, 0, api.MaxLoad},
		{c.Idle, 1, api.MaxTime},
		{c.Life, 1, api.MaxTime},
		{c.Memory, 0, api.MaxMemory},
		{c.Key, 0, maxFour},
	}
	for _, f := range fields {
		if !between(f.value, f.least, f.greatest) {
			return api.ErrConfig
		}
	}
	return api.OK
}

// Address answers ErrArg, if n is no address.
func Address(n int) api.Errno { return argument(n, maxAddress) }

// Time answers ErrArg, if n is no time of a token.
func Time(n int) api.Errno { return argument(n, maxFour) }

// Number answers ErrArg, if n can't be written as a number (a cid is one).
func Number(n int) api.Errno { return argument(n, api.MaxNumber) }

func argument(n int, greatest int) api.Errno {
	if !between(n, 0, greatest) {
		return api.ErrArg
	}
	return api.OK
}

func between(n int, least int, greatest int) bool {
	return least <= n && n <= greatest
}
