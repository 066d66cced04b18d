package stream

import (
	"cistern/api"
	"cistern/wire"
)

// Done is what stays of a stream that is done.
type Done struct {
	final int
	reset bool
}

// Done is what stays of the stream, of which the caller knows that it was read to its end, or that it was reset.
func (s *Stream) Done() Done { return Done{s.final, s.reset} }

// Final tells the final size. It counts as received, and as read, even where the stream was reset.
func (d Done) Final() int { return d.final }

// Take answers the code of a frame's breach, or 0; nothing is received any more.
func (d Done) Take(f wire.Frame) int { return checkFinal(f, d.final) }

// Read answers once more how the stream ended.
func (d Done) Read() api.Got { return api.Got{End: !d.reset, Reset: d.reset} }
