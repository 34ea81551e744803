package tree_test

import (
	"math/big"
	"strings"
	"testing"

	"withy/api"
	"withy/tree"
)

// key is a string for each forest; they are in the order of the forests. A byte 0 ends each list and each string, a byte 1 begins each element of a list.
func key(f []api.Tree) string {
	var s strings.Builder
	for _, t := range f {
		s.WriteString("\x01" + headKey(t.Head) + key(t.Kids))
	}
	return s.String() + "\x00"
}

func headKey(h api.Head) string {
	switch h.Kind {
	case api.Number:
		return "\x02" + numberKey(h.Num)
	case api.Text:
		return "\x03" + h.Text + "\x00"
	}
	s := "\x01" + h.Label + "\x00"
	for _, a := range h.Attrs {
		s += "\x01" + a.Name + "\x00" + a.Value + "\x00"
	}
	return s + "\x00"
}

// numberKey is the number in parts so small that no two numbers have the same, with something added so that it is above 0.
func numberKey(a api.Num) string {
	parts := new(big.Int).Exp(big.NewInt(10), big.NewInt(20), nil)
	n := new(big.Int).Mul(big.NewInt(int64(a.N)+2*api.MaxNum*int64(a.D)), parts)
	s := n.Div(n, big.NewInt(int64(a.D))).String()
	return strings.Repeat("0", 40-len(s)) + s
}

// P2.2: CompareHeads.
func TestCompareHeads(t *testing.T) {
	for _, h := range heads() {
		for _, i := range heads() {
			c, e := tree.CompareHeads(h, i)
			same(t, c, strings.Compare(headKey(h), headKey(i)), "CompareHeads", h, i)
			same(t, e, api.OK, "CompareHeads", h, i)
		}
	}
	for i, x := range wrongHeads() {
		for _, y := range [][2]api.Head{{x.Head, head("a")}, {head("a"), x.Head}, {x.Head, head("A", attr("", ""))}} {
			c, e := tree.CompareHeads(y[0], y[1])
			same(t, c, 0, "CompareHeads", i)
			same(t, e, x.e, "CompareHeads", i)
		}
	}
}

// P2.2: Compare, of forests each of which is less than the next one.
func TestCompare(t *testing.T) {
	rising := []string{
		"", "a", "a a", "a a a", "a a{a}", "a b", "a 1", "a{a}", "a{a} a", "a{a a}", "a{a{a}}", "a{b}", "a{1}", `a{"1"}`,
		`a(x="")`, `a(x="") a`, `a(x=""){a}`, `a(x="",y="")`, `a(x=" ")`, `a(x="1")`, `a(x="1",y="")`, `a(x="10")`, `a(x="2")`, `a(xa="")`, `a(y="")`, "a0", "aa", "ab", "b", "ba",
		"-1000000000", "-2", "-2 a", "-3/2", "-1", "-1/2", "-1/3", "-1/1000000000", "0", "1/1000000000", "1/3", "1/2", "999999998/999999999", "999999999/1000000000", "1", "1 1", "1 2", "7", "10",
		`""`, `"" a`, `" "`, `"1"`, `"10"`, `"2"`, `"A"`, `"\\"`, `"a"`, `"aa"`, `"b"`, `"~"`,
	}
	for i, a := range rising {
		for k, b := range rising {
			want := 0
			if i < k {
				want = -1
			} else if i > k {
				want = 1
			}
			c, e := tree.Compare(must(t, a), must(t, b))
			same(t, c, want, "Compare", a, b)
			same(t, e, api.OK, "Compare", a, b)
		}
	}
	for i, x := range wrongForests() {
		for _, y := range [][2][]api.Tree{{x.f, nil}, {nil, x.f}, {x.f, row(most + 1)}} {
			c, e := tree.Compare(y[0], y[1])
			same(t, c, 0, "Compare", i)
			same(t, e, x.e, "Compare", i)
		}
	}
}

// P2.9: forests are in one order, and the same just if they are equal; what is put before both, or put around both, keeps it.
func TestOrder(t *testing.T) {
	l := samples(130)
	for i, f := range l {
		for k, g := range l {
			want := strings.Compare(key(f), key(g))
			c, e := tree.Compare(f, g)
			same(t, c, want, "Compare", forestText(f), forestText(g))
			same(t, e, api.OK, "Compare")
			same(t, c == 0, forestText(f) == forestText(g), "the same", forestText(f), forestText(g))
			front := l[(i+k)%len(l)]
			before, e := tree.Concat(front, f)
			after, d := tree.Concat(front, g)
			if e == api.OK && d == api.OK {
				c, _ := tree.Compare(before, after)
				same(t, c, want, "put before", forestText(before), forestText(after))
			}
			h := heads()[(i+k)%14]
			inner, e := tree.Wrap(h, f)
			outer, d := tree.Wrap(h, g)
			if e == api.OK && d == api.OK {
				c, _ := tree.Compare(inner, outer)
				same(t, c, want, "put around", forestText(inner), forestText(outer))
			}
		}
	}
}
