package tree

import (
	"cmp"
	"strings"

	"withy/api"
	"withy/num"
)

// CompareHeads returns -1 if h is less than i, 0 if they are the same, otherwise 1.
func CompareHeads(h, i api.Head) (int, api.Errno) {
	if e := firstError(CheckHead(h), CheckHead(i)); e != api.OK {
		return 0, e
	}
	return compareBy(h, i, aspects()...), api.OK
}

// Compare returns -1 if f is less than g, 0 if they are the same, otherwise 1.
func Compare(f, g []api.Tree) (int, api.Errno) {
	if e := firstError(Check(f), Check(g)); e != api.OK {
		return 0, e
	}
	return order{heads: aspects()}.forests(f, g), api.OK
}

// aspect is one of the things by which heads are compared.
type aspect struct{ compare func(h, i api.Head) int }

// aspects are those of all kinds: what a kind does not have is the same in two heads of it.
func aspects() []aspect {
	return []aspect{
		{func(h, i api.Head) int { return cmp.Compare(h.Kind, i.Kind) }},
		{func(h, i api.Head) int { return strings.Compare(h.Label, i.Label) }},
		{func(h, i api.Head) int { return compareLists(h.Attrs, i.Attrs, compareAttrs) }},
		{func(h, i api.Head) int { return compareNumbers(h.Num, i.Num) }},
		{func(h, i api.Head) int { return strings.Compare(h.Text, i.Text) }},
	}
}

// compareBy compares heads by one aspect after the other: the first one in which they differ decides.
func compareBy(h, i api.Head, by ...aspect) int {
	for _, a := range by {
		if c := a.compare(h, i); c != 0 {
			return c
		}
	}
	return 0
}

func compareAttrs(a, b api.Attr) int {
	return cmp.Or(strings.Compare(a.Name, b.Name), strings.Compare(a.Value, b.Value))
}

// compareNumbers returns 0 for what heads have that are no numbers.
func compareNumbers(a, b api.Num) int {
	c, _ := num.Cmp(a, b)
	return c
}

// order is that of trees, by aspects of their heads.
type order struct{ heads []aspect }

func (o order) trees(t, u api.Tree) int {
	if c := compareBy(t.Head, u.Head, o.heads...); c != 0 {
		return c
	}
	return o.forests(t.Kids, u.Kids)
}

func (o order) forests(f, g []api.Tree) int { return compareLists(f, g, o.trees) }

// compareLists compares lists, element by element; of two that begin alike the shorter one is less.
func compareLists[T any](a, b []T, compare func(x, y T) int) int {
	for i := range min(len(a), len(b)) {
		if c := compare(a[i], b[i]); c != 0 {
			return c
		}
	}
	return cmp.Compare(len(a), len(b))
}

// firstError returns the first of the errors that is not OK, or OK.
func firstError(l ...api.Errno) api.Errno { return cmp.Or(l...) }
