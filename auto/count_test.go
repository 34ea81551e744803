package auto_test

import (
	"fmt"
	"math/big"
	"slices"
	"strings"
	"testing"

	"withy/api"
	"withy/auto"
	"withy/guard"
)

func listed(l [][]api.Tree) string {
	var all []string
	for _, f := range l {
		all = append(all, "["+text(f)+"]")
	}
	return strings.Join(all, " ")
}

func count(a api.Auto, def, trees int) string {
	n, e := auto.Count(a, def, trees)
	return told(fmt.Sprint(n), e)
}

func list(a api.Auto, def, trees int) string {
	l, e := auto.List(a, def, trees)
	return told(listed(l), e)
}

// P7.5: Count and List of the chapter's example, and others.
func TestCountExamples(t *testing.T) {
	other := with(onlyA(), not(is(0)))
	for i, x := range []struct {
		a          api.Auto
		def, trees int
		count      string
		list       string
	}{
		{onlyA(), 0, 3, "1", "[a a a]"}, {onlyA(), 0, 2, "1", "[a a]"}, {other, 1, 1, "2", "[b] [0]"}, {other, 1, 0, "0", ""}, {onlyA(), 0, 0, "1", "[]"}, {other, 1, 2, "14", "[a b] [a 0] [a{a}] [a{b}] [a{0}] [b a] [b b] [b 0] [b{a}] [b{b}] [b{0}] [0 a] [0 b] [0 0]"},
		{unreached(), 0, 2, "0", ""}, {unreached(), 1, 2, "4", "[a a] [a{a}] [0 a] [0 0]"}, {modulo(2), 0, 1, "0", ""}, {modulo(2), 1, 2, "2", "[a{a}] [a{0}]"}, {modulo(1), 0, 8, "41586", failed(api.ErrLimit)},
	} {
		same(t, count(x.a, x.def, x.trees), x.count, "Count", i)
		same(t, list(x.a, x.def, x.trees), x.list, "List", i)
	}
}

// P7.5 and P7.12: as many forests are listed as are counted, each is of the definition, and none is missing.
func TestCounted(t *testing.T) {
	lists := 0
	for seed := range uint64(120) {
		m := newMaker(seed)
		a := m.any(6)
		x := read(a)
		all := newForests(x.heads())
		for trees := range 5 {
			if trees > 2 && len(x.regions) > 4 {
				break
			}
			of := make([][][]api.Tree, len(a.Yes[0]))
			for _, f := range all.of(trees) {
				for def, yes := range a.Yes[x.state(f)] {
					if yes {
						of[def] = append(of[def], f)
					}
				}
			}
			for def, l := range of {
				same(t, count(a, def, trees), fmt.Sprint(len(l)), "Count", def, trees, a)
				want := listed(l)
				if len(l) > 300 {
					want = failed(api.ErrLimit)
				} else if len(l) > 0 {
					lists++
				}
				same(t, list(a, def, trees), want, "List", def, trees, a)
			}
		}
	}
	same(t, lists > 300, true, "lists that are not empty", lists)
}

// row accepts trees beside each other, without kids: the i-th one with a head of one of the last ways[i] regions; and as many numbers, if it is to have one forest more.
func row(l []api.Guard, more bool, ways ...int) api.Auto {
	n := len(ways)
	a := blank(l, 2*n+2)
	last := 2*n + 1
	regions := len(a.Next[0])
	for s, rows := range a.Next {
		for r := range rows {
			rows[r] = slices.Repeat([]int{last}, last+1)
			if s < n && r >= regions-ways[s] {
				rows[r][0] = s + 1
			}
		}
		a.Yes[s] = []bool{s == n || s == 2*n && more, true}
	}
	for i := range n {
		from := n + i
		if i == 0 {
			from = 0
		}
		a.Next[from][0][0] = n + 1 + i
	}
	return a
}

// many are guards with more than 25 regions of elements.
func many() []api.Guard { return append(marked(4), guards("@k", "@l", "@m")...) }

// P7.5: counts at the limits of what is counted, and of what is listed.
func TestCountLimits(t *testing.T) {
	for _, x := range []struct {
		more  bool
		ways  []int
		count string
	}{
		{false, []int{10, 10, 10, 10, 10, 20, 25, 20}, "1000000000"}, {true, []int{10, 10, 10, 10, 10, 20, 25, 20}, failed(api.ErrLimit)}, {true, []int{10, 10, 10, 10, 9, 20, 25, 20}, "900000001"}, {false, []int{10, 10, 10, 10, 11, 20, 25, 20}, failed(api.ErrLimit)}, {false, []int{10, 10, 10, 10, 9, 20, 25, 20}, "900000000"}, {false, []int{25, 40, 40, 40, 40, 40, 40, 40}, failed(api.ErrLimit)}, {false, []int{13, 7, 11, 17, 19, 23, 2, 1}, "14872858"}, {false, []int{0, 40, 40, 40, 40, 40, 40, 40}, "0"}, {false, []int{40, 40, 40, 40, 40, 40, 40, 0}, "0"},
		{false, []int{25, 40, 40}, "40000"}, {false, []int{40, 25, 40, 25, 25, 40}, "1000000000"}, {true, []int{40, 25, 40, 25, 25, 40}, failed(api.ErrLimit)}, {false, []int{40, 25, 40, 25, 25, 32}, "800000000"}, {false, []int{40, 25, 40, 25, 25, 40, 1, 0}, "0"},
	} {
		if strings.HasPrefix(x.count, "error") {
			x.count += "0"
		}
		a := row(many(), x.more, x.ways...)
		same(t, count(a, 0, len(x.ways)), x.count, "Count", x.ways)
		same(t, count(a, 0, len(x.ways)-1), "0", "Count of fewer trees", x.ways)
		same(t, count(a, 1, 0), "1", "Count of none", x.ways)
	}
	for _, x := range []struct {
		more bool
		ways []int
		e    api.Errno
	}{{false, []int{15, 20}, api.OK}, {true, []int{15, 20}, api.ErrLimit}, {true, []int{13, 23}, api.OK}, {false, []int{3, 10, 10}, api.OK}, {true, []int{3, 10, 10}, api.ErrLimit}, {true, []int{2, 2, 2, 2, 2, 2, 2, 2}, api.OK}, {false, []int{3, 2, 2, 2, 2, 2, 2, 2}, api.ErrLimit}, {true, []int{0, 40}, api.OK}} {
		a := row(many(), x.more, x.ways...)
		total := 1
		for _, n := range x.ways {
			total *= n
		}
		if x.more {
			total++
		}
		same(t, count(a, 0, len(x.ways)), fmt.Sprint(total), "Count", x.ways)
		l, e := auto.List(a, 0, len(x.ways))
		same(t, e, x.e, "List", x.ways)
		if x.e != api.OK {
			total = 0
		}
		same(t, len(l), total, "List", x.ways)
		same(t, slices.IsSortedFunc(l, compare), true, "in order", x.ways)
	}
}

// P7.5 and P7.12: all forests of many heads are as many as a second way to count them says: by what stands beside the first tree, and what is in it.
func TestCountAll(t *testing.T) {
	limits := 0
	for _, l := range [][]api.Guard{guards("<>"), marked(1), marked(4), many(), guards("<>", "#", "<0", "<1", "%"), append(many(), guards("#", "<0", "<1", `"x"`)...), finest()} {
		a := automaton(l, nil, "1")
		regions, _ := guard.Regions(l)
		elements := 0
		for _, r := range regions {
			if r.Least.Kind == api.Elem {
				elements++
			}
		}
		all := []*big.Int{big.NewInt(1)}
		for n := range 8 {
			sum := new(big.Int).Mul(big.NewInt(int64(len(regions))), all[n])
			for inside := 1; inside <= n; inside++ {
				ways := new(big.Int).Mul(all[inside], all[n-inside])
				sum.Add(sum, ways.Mul(ways, big.NewInt(int64(elements))))
			}
			all = append(all, sum)
		}
		for n, sum := range all {
			want := sum.String()
			if sum.Cmp(big.NewInt(api.MaxNum)) > 0 {
				want = failed(api.ErrLimit) + "0"
				limits++
			}
			same(t, count(a, 0, n), want, "Count of all", n, len(regions))
		}
	}
	same(t, limits > 5, true, "counts that are too large", limits)
}

// The errors of Count and List, in their order.
func TestCountErrors(t *testing.T) {
	for i, x := range []struct {
		a          api.Auto
		def, trees int
		e          api.Errno
	}{
		{onlyA(), 0, -1, api.ErrRange}, {onlyA(), 0, 9, api.ErrRange}, {onlyA(), 0, 1 << 62, api.ErrRange}, {onlyA(), 0, -1 << 63, api.ErrRange}, {modulo(1), 0, 9, api.ErrRange}, {onlyA(), 1, 0, api.ErrAbsent}, {onlyA(), 1, 9, api.ErrAbsent}, {onlyA(), -1, -1, api.ErrAbsent}, {blank(guards("<>"), 1), 0, 0, api.ErrAbsent}, {modulo(1), 1, 8, api.ErrAbsent}, {modulo(1), 0, 8, api.OK}, {sized(0, 1, 3, 7, 15, 31, 63, 127, 255, 511), 0, 8, api.OK},
	} {
		if x.e != api.OK {
			same(t, count(x.a, x.def, x.trees), failed(x.e)+"0", "Count", i)
			same(t, list(x.a, x.def, x.trees), failed(x.e), "List", i)
		} else {
			_, e := auto.Count(x.a, x.def, x.trees)
			same(t, e, api.OK, "Count", i)
		}
	}
	for i, x := range wrongAutomata() {
		same(t, count(x.a, 9, 9), failed(x.e)+"0", "Count of a wrong one", i)
		same(t, list(x.a, 9, 9), failed(x.e), "List of a wrong one", i)
	}
}
