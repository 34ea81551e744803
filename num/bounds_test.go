package num

import (
	"testing"

	"withy/api"
)

// P0.1: no panic leaves the package, not even one that it does not know, and no result comes with it.
func TestBounded(t *testing.T) {
	for _, x := range []struct {
		cause any
		e     api.Errno
	}{{nil, api.OK}, {beyond{}, api.ErrLimit}, {"unknown", api.ErrState}} {
		k, e := bounded(func() int {
			if x.cause != nil {
				panic(x.cause)
			}
			return 7
		})
		if e != x.e || (k == 7) != (e == api.OK) || k != 7 && k != 0 {
			t.Errorf("%v: %d, %v", x.cause, k, e)
		}
	}
}
