package share_test

import (
	"testing"

	"withy/api"
	"withy/share"
)

// P0.1: no panic leaves what is bounded, not even one that is not known, and no result comes with it.
func TestBounded(t *testing.T) {
	for _, x := range []struct {
		cause any
		e     api.Errno
	}{{nil, api.OK}, {share.Beyond{}, api.ErrLimit}, {"unknown", api.ErrState}} {
		k, e := share.Bounded(func() int {
			if x.cause != nil {
				panic(x.cause)
			}
			return 7
		})
		if e != x.e || (k == 7) != (e == api.OK) || k != 7 && k != 0 {
			t.Errorf("%v: %d, %v", x.cause, k, e)
		}
	}
}
