package tree_test

import (
	"math"
	"slices"
	"strings"
	"testing"

	"withy/api"
	"withy/tree"
)

type wrongHead struct {
	api.Head
	e api.Errno
}

// wrongHeads are heads with errors, in the order of the chapter where there are several.
func wrongHeads() []wrongHead {
	four := []api.Attr{attr("a", ""), attr("b", ""), attr("c", ""), attr("d", "")}
	one := api.Num{N: 1, D: 1}
	return []wrongHead{
		{api.Head{Kind: -1}, api.ErrForm}, {api.Head{Kind: 3, Label: "a"}, api.ErrForm}, {api.Head{Kind: math.MaxInt}, api.ErrForm}, {api.Head{Kind: math.MinInt}, api.ErrForm},
		{api.Head{Label: "a", Num: one}, api.ErrForm}, {api.Head{Label: "a", Num: api.Num{D: 1}}, api.ErrForm}, {api.Head{Label: "a", Num: api.Num{N: 1}}, api.ErrForm}, {api.Head{Label: "a", Text: "x"}, api.ErrForm}, {api.Head{Label: "A", Text: "x", Attrs: four}, api.ErrForm},
		{api.Head{Kind: api.Number, Num: one, Label: "a"}, api.ErrForm}, {api.Head{Kind: api.Number, Num: one, Attrs: four[:1]}, api.ErrForm}, {api.Head{Kind: api.Number, Num: one, Attrs: []api.Attr{{}}}, api.ErrForm}, {api.Head{Kind: api.Number, Num: one, Text: "1"}, api.ErrForm}, {api.Head{Kind: api.Number, Text: "1"}, api.ErrForm},
		{api.Head{Kind: api.Text, Label: "a"}, api.ErrForm}, {api.Head{Kind: api.Text, Attrs: []api.Attr{{}}}, api.ErrForm}, {api.Head{Kind: api.Text, Num: one}, api.ErrForm}, {api.Head{Kind: api.Text, Text: "\n", Num: api.Num{D: 1}}, api.ErrForm},
		{head(""), api.ErrName}, {head("abcdefghi"), api.ErrName}, {head("1a"), api.ErrName}, {head("A"), api.ErrName}, {head("aB"), api.ErrName}, {head("a-b"), api.ErrName}, {head("a "), api.ErrName}, {head("a`"), api.ErrName}, {head("a{"), api.ErrName}, {head("a/"), api.ErrName}, {head("a:"), api.ErrName}, {head("é"), api.ErrName}, {head("a\x00"), api.ErrName}, {head("a\xff"), api.ErrName}, {head(strings.Repeat("a", 100000)), api.ErrName},
		{head("", four...), api.ErrName}, {head("9", attr("B", "\n")), api.ErrName},
		{head("a", four...), api.ErrMany}, {head("a", make([]api.Attr, 4)...), api.ErrMany}, {head("a", make([]api.Attr, 100000)...), api.ErrMany},
		{head("a", attr("", "")), api.ErrName}, {head("a", attr("1", "")), api.ErrName}, {head("a", attr("abcdefghi", "")), api.ErrName}, {head("a", attr("B", "\n")), api.ErrName}, {head("a", attr("b", ""), attr("A", "")), api.ErrName}, {head("a", attr("x", ""), attr("", "")), api.ErrName},
		{head("a", attr("b", ""), attr("a", "")), api.ErrOrder}, {head("a", attr("b", ""), attr("b", "x")), api.ErrOrder}, {head("a", attr("b", ""), attr("a", "\n")), api.ErrOrder}, {head("a", attr("a", ""), attr("c", ""), attr("b", "")), api.ErrOrder}, {head("a", attr("ab", ""), attr("a", "")), api.ErrOrder}, {head("a", attr("a", ""), attr("b", ""), attr("a", "")), api.ErrOrder},
		{head("a", attr("b", "1234567890123")), api.ErrRange}, {head("a", attr("b", "\n")), api.ErrRange}, {head("a", attr("b", "\x1f")), api.ErrRange}, {head("a", attr("b", "\x7f")), api.ErrRange}, {head("a", attr("b", "é")), api.ErrRange}, {head("a", attr("b", "x\x00")), api.ErrRange}, {head("a", attr("b", "\n"), attr("a", "")), api.ErrRange}, {head("a", attr("b", strings.Repeat("x", 13)), attr("", "")), api.ErrRange}, {head("a", attr("b", ""), attr("c", "\t")), api.ErrRange},
		{number(0, 0).Head, api.ErrRange}, {number(1, 0).Head, api.ErrRange}, {number(1, -2).Head, api.ErrRange}, {number(api.MaxNum+1, 1).Head, api.ErrRange}, {number(2, 4).Head, api.ErrForm}, {number(0, 2).Head, api.ErrForm}, {number(math.MinInt, math.MinInt).Head, api.ErrRange},
		{text(strings.Repeat("x", api.MaxText+1)).Head, api.ErrRange}, {text("\n").Head, api.ErrRange}, {text("\x1f").Head, api.ErrRange}, {text("\x7f").Head, api.ErrRange}, {text("é").Head, api.ErrRange}, {text("a\xff").Head, api.ErrRange}, {text("a\x00b").Head, api.ErrRange},
	}
}

// P2.1: CheckHead.
func TestCheckHead(t *testing.T) {
	for _, h := range heads() {
		same(t, tree.CheckHead(h), api.OK, "CheckHead", h)
	}
	for _, h := range []api.Head{{Kind: api.Text, Attrs: []api.Attr{}}, {Kind: api.Number, Num: api.Num{D: 1}, Attrs: []api.Attr{}}, head("a", []api.Attr{}...)} {
		same(t, tree.CheckHead(h), api.OK, "CheckHead, R3", h)
	}
	for _, h := range wrongHeads() {
		same(t, tree.CheckHead(h.Head), h.e, "CheckHead", h.Head)
	}
}

// P2.1: which bytes names, values and texts can have.
func TestCheckBytes(t *testing.T) {
	for i := range 256 {
		b := string([]byte{byte(i)})
		letter := strings.Contains("abcdefghijklmnopqrstuvwxyz", b)
		digit := strings.Contains("0123456789", b)
		first, later, inside := api.ErrName, api.ErrName, api.ErrRange
		if letter {
			first = api.OK
		}
		if letter || digit {
			later = api.OK
		}
		if i >= 32 && i <= 126 {
			inside = api.OK
		}
		same(t, tree.CheckHead(head(b)), first, "first byte of a label", i)
		same(t, tree.CheckHead(head("a", attr(b, ""))), first, "first byte of a name", i)
		same(t, tree.CheckHead(head("a"+b)), later, "later byte of a label", i)
		same(t, tree.CheckHead(head("abcdefg"+b)), later, "last byte of a label", i)
		same(t, tree.CheckHead(head("a", attr("b"+b+"c", ""))), later, "later byte of a name", i)
		same(t, tree.CheckHead(head("a", attr("b", b))), inside, "byte of a value", i)
		same(t, tree.CheckHead(head("a", attr("b", "12345678901"+b))), inside, "last byte of a value", i)
		same(t, tree.CheckHead(text(b).Head), inside, "byte of a text", i)
		same(t, tree.CheckHead(text("x"+b+"y").Head), inside, "byte of a text", i)
	}
}

type wrongForest struct {
	f []api.Tree
	e api.Errno
}

// wrongForests are forests with errors, in the order of the chapter where there are several.
func wrongForests() []wrongForest {
	bad, stray := elem("A"), number(1, 1)
	stray.Kids = []api.Tree{elem("a")}
	quote := text("x")
	quote.Kids = []api.Tree{bad}
	worse := number(2, 4)
	worse.Kids = row(1)
	l := []wrongForest{
		{row(most + 1), api.ErrMany}, {append(row(most), bad), api.ErrMany}, {append([]api.Tree{bad}, row(most)...), api.ErrMany}, {chain(1, row(most)...), api.ErrMany}, {append(chain(1, row(most-1)...), elem("a")), api.ErrMany}, {chain(most + 1), api.ErrMany}, {chain(100000), api.ErrMany}, {row(100000), api.ErrMany}, {doubled(), api.ErrMany},
		{[]api.Tree{{Head: api.Head{Kind: api.Text}, Kids: row(most)}}, api.ErrMany},
		{chain(api.MaxDeep + 1), api.ErrLimit}, {chain(api.MaxDeep, row(2)...), api.ErrLimit}, {append(row(1), chain(api.MaxDeep+1)...), api.ErrLimit}, {append([]api.Tree{bad}, chain(api.MaxDeep+1)...), api.ErrLimit}, {chain(most), api.ErrLimit}, {chain(api.MaxDeep-1, stray), api.ErrLimit},
		{[]api.Tree{bad}, api.ErrName}, {[]api.Tree{{}}, api.ErrName}, {[]api.Tree{elem("a"), bad}, api.ErrName}, {chain(5, bad), api.ErrName}, {chain(3, append(row(2), bad)...), api.ErrName},
		{[]api.Tree{stray}, api.ErrForm}, {[]api.Tree{quote}, api.ErrForm}, {[]api.Tree{bad, stray}, api.ErrName}, {[]api.Tree{stray, bad}, api.ErrForm}, {[]api.Tree{elem("a", stray), bad}, api.ErrForm}, {[]api.Tree{elem("a", bad), stray}, api.ErrName}, {[]api.Tree{worse}, api.ErrForm},
		{[]api.Tree{elem("A", number(2, 4))}, api.ErrName}, {[]api.Tree{elem("a", number(0, 0)), bad}, api.ErrRange},
	}
	for _, f := range endless() {
		l = append(l, wrongForest{f, api.ErrMany})
	}
	for _, h := range wrongHeads() {
		l = append(l, wrongForest{[]api.Tree{{Head: h.Head}}, h.e}, wrongForest{append(example(), elem("a", api.Tree{Head: h.Head})), h.e}, wrongForest{append([]api.Tree{{Head: h.Head}}, elem("a"), elem("")), h.e})
	}
	return l
}

// P2.1: Check, Size and Deep.
func TestCheck(t *testing.T) {
	for _, f := range samples(300) {
		l := marks(f)
		deepest := 0
		for _, p := range places(l) {
			deepest = max(deepest, len(p.path))
		}
		size, e := tree.Size(f)
		deep, d := tree.Deep(f)
		same(t, tree.Check(f), api.OK, "Check", forestText(f))
		same(t, e, api.OK, "Size", forestText(f))
		same(t, d, api.OK, "Deep", forestText(f))
		same(t, size, len(l)/2, "Size", forestText(f))
		same(t, deep, deepest, "Deep", forestText(f))
	}
	for i, x := range wrongForests() {
		same(t, tree.Check(x.f), x.e, "Check", i)
		size, e := tree.Size(x.f)
		same(t, e, x.e, "Size", i)
		same(t, size, 0, "Size", i)
		deep, e := tree.Deep(x.f)
		same(t, e, x.e, "Deep", i)
		same(t, deep, 0, "Deep", i)
	}
	bare := number(1, 1)
	bare.Kids = []api.Tree{}
	same(t, tree.Check([]api.Tree{bare}), api.OK, "R3: a number with kids of which there are none")
}

// P2.1: Digest, also of what is too long to be printed.
func TestDigest(t *testing.T) {
	long := slices.Repeat([]api.Tree{{Head: head("abcdefgh", attr("a", strings.Repeat(`"`, 12)), attr("b", strings.Repeat(`\`, 12)))}}, most)
	for _, f := range append(samples(100), long) {
		want := 0
		for _, b := range []byte(forestText(f)) {
			want = (want*1009%999983 + int(b) + 1) % 999983
		}
		d, e := tree.Digest(f)
		same(t, d, want, "Digest", forestText(f))
		same(t, e, api.OK, "Digest", forestText(f))
	}
	for s, want := range map[string]int{"": 0, "a": 98, "7": 56} {
		d, _ := tree.Digest(must(t, s))
		same(t, d, want, "Digest", s)
	}
	for i, x := range wrongForests() {
		d, e := tree.Digest(x.f)
		same(t, e, x.e, "Digest", i)
		same(t, d, 0, "Digest", i)
	}
}
