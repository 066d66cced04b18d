package wire

import (
	"errors"
	"strconv"
)

// None tells that bytes are none of what was looked for, and why.
type None struct {
	Why string
}

func (n *None) Error() string { return n.Why }

// tooFew tells that there are not as many bytes as it takes.
func tooFew(count int, needed int) *None {
	return &None{Why: strconv.Itoa(count) + " of " + strconv.Itoa(needed) + " bytes"}
}

// Within tells in which part of what was read the cause of an error lies.
type Within struct {
	Part  string
	Cause error
}

func (w *Within) Error() string { return w.Part + ": " + w.Cause.Error() }

// Unwrap hands the cause to errors.As, so that a None is found however deep it lies.
func (w *Within) Unwrap() error { return w.Cause }

// IsNone tells whether there is a None within an error.
func IsNone(err error) bool {
	var none *None
	return errors.As(err, &none)
}
