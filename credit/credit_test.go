package credit_test

import (
	"testing"

	"cistern/api"
	"cistern/credit"
)

func TestFollow(t *testing.T) {
	for _, x := range []struct {
		ahead int
		reads []int // one behind the other
		want  int
		more  bool // at the last one
	}{
		{8, nil, 8, false},
		{8, []int{0}, 8, false},
		{8, []int{4}, 8, false},
		{8, []int{5}, 13, true},
		{8, []int{8}, 16, true},
		{8, []int{5, 5}, 13, false},
		{8, []int{5, 9}, 13, false},
		{8, []int{5, 10}, 18, true},
		{9, []int{5}, 9, false},
		{9, []int{6}, 15, true},
		// near the greatest number, and there
		{8, []int{api.MaxNumber - 9}, api.MaxNumber - 1, true},
		{8, []int{api.MaxNumber - 8}, api.MaxNumber, true},
		{8, []int{api.MaxNumber - 7}, api.MaxNumber, true},
		{8, []int{api.MaxNumber}, api.MaxNumber, true},
		{8, []int{api.MaxNumber - 9, api.MaxNumber - 5}, api.MaxNumber - 1, false},
		{8, []int{api.MaxNumber - 9, api.MaxNumber - 4}, api.MaxNumber, true},
		{8, []int{api.MaxNumber - 4, api.MaxNumber}, api.MaxNumber, false},
	} {
		c, more := credit.New(x.ahead), false
		for _, read := range x.reads {
			more = c.Follow(read)
		}
		if c.Bytes() != x.want || more != x.more {
			t.Errorf("%d ahead, read %d: %d, %t, want %d, %t", x.ahead, x.reads, c.Bytes(), more, x.want, x.more)
		}
	}
}
