package cistern_test

import (
	"math"
	"testing"

	"cistern/api"
)

type configField struct {
	name            string
	of              func(c *api.Config) *int
	least, greatest int
}

// configFields: the bounds as the document has them, Piece's in a config whose Window is 4096.
func configFields() []configField {
	return []configField{
		{"Conns", func(c *api.Config) *int { return &c.Conns }, 1, 8},
		{"Window", func(c *api.Config) *int { return &c.Window }, 8, 4096},
		{"Piece", func(c *api.Config) *int { return &c.Piece }, 8, 4096},
		{"Streams", func(c *api.Config) *int { return &c.Streams }, 1, 8},
		{"Gaps", func(c *api.Config) *int { return &c.Gaps }, 1, 8},
		{"Load", func(c *api.Config) *int { return &c.Load }, 0, 8},
		{"Idle", func(c *api.Config) *int { return &c.Idle }, 1, 1000},
		{"Life", func(c *api.Config) *int { return &c.Life }, 1, 1000},
		{"Memory", func(c *api.Config) *int { return &c.Memory }, 0, 100000},
		{"Key", func(c *api.Config) *int { return &c.Key }, 0, 4294967295},
	}
}

// roomy is a config in which each field alone may go to its least and greatest.
func roomy(f configField) api.Config {
	c := config()
	if f.name == "Piece" {
		c.Window = 4096
	}
	return c
}

func TestP3ConfigsAtTheirBounds(t *testing.T) {
	for _, f := range configFields() {
		for _, v := range []int{f.least, f.greatest} {
			c := roomy(f)
			*f.of(&c) = v
			checkErrors(t, c, 7, 5, api.OK, api.OK)
			checkErrors(t, c, -1, 5, api.ErrArg, api.ErrArg)
		}
	}
}

// Where the address or the number is wrong, too, ErrConfig is named first.
func TestP3ConfigsBeyondTheirBounds(t *testing.T) {
	for _, f := range configFields() {
		for _, v := range []int{f.least - 1, f.greatest + 1, math.MinInt, math.MaxInt} {
			c := roomy(f)
			*f.of(&c) = v
			checkErrors(t, c, 7, 5, api.ErrConfig, api.ErrConfig)
			checkErrors(t, c, 256, 5, api.ErrConfig, api.ErrConfig)
			checkErrors(t, c, 7, -1, api.ErrConfig, api.ErrConfig)
		}
	}
	checkErrors(t, api.Config{}, 7, 5, api.ErrConfig, api.ErrConfig)
}

func TestP3PieceIsAtMostWindow(t *testing.T) {
	for _, x := range []struct {
		window, piece int
		want          api.Errno
	}{
		{8, 8, api.OK},
		{8, 9, api.ErrConfig},
		{100, 100, api.OK},
		{100, 101, api.ErrConfig},
		{4095, 4096, api.ErrConfig},
		{4096, 4096, api.OK},
		{4097, 4097, api.ErrConfig},
		{7, 7, api.ErrConfig},
	} {
		c := config()
		c.Window, c.Piece = x.window, x.piece
		checkErrors(t, c, 7, 5, x.want, x.want)
	}
}
