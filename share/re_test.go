package share_test

import (
	"slices"
	"testing"

	"withy/api"
	"withy/share"
)

// P5.1, P6.1: an expression has just what its kind uses, and names a definition that is there.
func TestCheckRe(t *testing.T) {
	var sub api.Re
	for _, x := range []struct {
		r api.Re
		e api.Errno
	}{
		{api.Re{Op: api.RNone}, api.OK},
		{api.Re{Op: api.RTree, Guard: api.Guard{Op: 99}, Def: 1}, api.OK},
		{api.Re{Op: api.RRef, Def: 2}, api.ErrAbsent},
		{api.Re{Op: api.RTree, Def: -1}, api.ErrAbsent},
		{api.Re{Op: api.RStar, Subs: []api.Re{{Op: 99}}}, api.OK},
		{api.Re{Op: api.RStar}, api.ErrForm},
		{api.Re{Op: api.RMix, Subs: []api.Re{sub}}, api.ErrForm},
		{api.Re{Op: api.REps, Def: 1}, api.ErrForm},
		{api.Re{Op: api.RRef, Guard: api.Guard{Value: "a"}}, api.ErrForm},
		{api.Re{Op: api.ReOp(share.ReOps)}, api.ErrForm},
		{api.Re{Op: -1}, api.ErrForm},
	} {
		if e := share.CheckRe(x.r, 2); e != x.e {
			t.Errorf("%v: %v", x.r, e)
		}
		if x.e == api.OK && share.UseOf(x.r.Op).Subs != len(x.r.Subs) {
			t.Errorf("%v: %v", x.r, share.UseOf(x.r.Op))
		}
	}
}

// R8: what holds itself is told from what fits by the first expression that is too many.
func TestFits(t *testing.T) {
	for count := range 5 {
		if is := share.Fits(slices.Values(make([]int, count)), 3); is != (count <= 3) {
			t.Errorf("%d: %v", count, is)
		}
	}
	r := api.Re{Op: api.RStar, Subs: make([]api.Re, 1)}
	r.Subs[0] = r
	if share.Fits(share.Expressions(r), 1000) {
		t.Error("what holds itself fits")
	}
}
