// Package credit: how many bytes a client may send.
package credit

import "cistern/api"

// Credit is how many bytes may be sent, of one stream or of all together.
type Credit struct {
	bytes int // from the first one on
	ahead int // how far it goes beyond what was read, at most
}

// New makes the credit of which nothing was read yet.
func New(ahead int) Credit { return Credit{bytes: ahead, ahead: ahead} }

// Bytes tells how many bytes may be sent, from the first one on.
func (c Credit) Bytes() int { return c.bytes }

// Follow raises the credit where too little of it is left beyond what was read, and tells whether it is more now. It bides its time till about half is used up: else each byte that is read would make news.
func (c *Credit) Follow(read int) bool {
	before := c.bytes
	if before < read+c.ahead/2 {
		c.bytes = min(read+c.ahead, api.MaxNumber)
	}
	return c.bytes > before
}
