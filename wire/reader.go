package wire

import "strconv"

// reader takes parts off the front of bytes. Once a part is none, it has an error, and what it answers means nothing.
type reader struct {
	rest []byte
	err  error
}

// fail keeps the first error: those behind it may come of it.
func (r *reader) fail(part string, cause error) {
	if r.err == nil {
		r.err = &Within{Part: part, Cause: cause}
	}
}

// number takes a number.
func (r *reader) number(part string) int {
	n, size, err := ReadNumber(r.rest)
	if err != nil {
		r.fail(part, err)
	}
	r.rest = r.rest[size:]
	return n
}

// bytes takes so many bytes. They are lent: they lie in what is read.
func (r *reader) bytes(part string, count int) []byte {
	if count > len(r.rest) {
		r.fail(part, tooFew(len(r.rest), count))
	}
	if r.err != nil {
		return nil
	}
	b := r.rest[:count]
	r.rest = r.rest[count:]
	return b
}

// kind takes a byte that says what follows.
func (r *reader) kind(part string) int {
	b := r.bytes(part, 1)
	if r.err != nil {
		return 0
	}
	return int(b[0])
}

// unknown tells that there is no such kind.
func (r *reader) unknown(part string, kind int) {
	r.fail(part, &None{Why: "unknown: " + strconv.Itoa(kind)})
}
