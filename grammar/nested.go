package grammar

import (
	"iter"
	"slices"

	"withy/api"
	"withy/share"
)

// expressions yields the expressions of an expression, in order.
func expressions(r api.Re) iter.Seq[api.Re] {
	return share.Nested(r, func(r api.Re) []api.Re { return r.Subs })
}

// sameRe is whether expressions are the same in each field.
func sameRe(a, b api.Re) bool {
	return a.Op == b.Op && share.SameGuard(a.Guard, b.Guard) && a.Def == b.Def && slices.EqualFunc(a.Subs, b.Subs, sameRe)
}
