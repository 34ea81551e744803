package guard_test

import (
	"math/big"
	"math/rand/v2"
	"slices"
	"strings"
	"testing"

	"withy/api"
	"withy/guard"
	"withy/tree"
)

// The tests hold what the functions return against another reading of the chapter, which shares no code with the package: what guards accept is reckoned here with big.Rat, candidates are found one by one, the simplest numbers by trying all in the order of simplicity, and regions are strings of 0 and 1.

func op(o api.GuardOp) api.Guard { return api.Guard{Op: o} }

func label(name string) api.Guard { return api.Guard{Op: api.GLabel, Name: name} }

func has(name string) api.Guard { return api.Guard{Op: api.GHas, Name: name} }

func valued(name, value string) api.Guard {
	return api.Guard{Op: api.GAttr, Name: name, Value: value}
}

func below(n, d int) api.Guard { return api.Guard{Op: api.GBelow, At: api.Num{N: n, D: d}} }

func is(value string) api.Guard { return api.Guard{Op: api.GIs, Value: value} }

func starts(value string) api.Guard { return api.Guard{Op: api.GStarts, Value: value} }

func not(g api.Guard) api.Guard { return api.Guard{Op: api.GNot, Subs: []api.Guard{g}} }

func and(a, b api.Guard) api.Guard { return api.Guard{Op: api.GAnd, Subs: []api.Guard{a, b}} }

func or(a, b api.Guard) api.Guard { return api.Guard{Op: api.GOr, Subs: []api.Guard{a, b}} }

// nots is a guard within so many GNot.
func nots(count int, g api.Guard) api.Guard {
	for range count {
		g = not(g)
	}
	return g
}

func elem(name string, attrs ...api.Attr) api.Head { return api.Head{Label: name, Attrs: attrs} }

func number(n, d int) api.Head { return api.Head{Kind: api.Number, Num: api.Num{N: n, D: d}} }

func text(s string) api.Head { return api.Head{Kind: api.Text, Text: s} }

func rat(a api.Num) *big.Rat { return big.NewRat(int64(a.N), int64(a.D)) }

// accepts is whether a guard accepts a head, both without errors.
func accepts(g api.Guard, h api.Head) bool {
	values := map[string]string{}
	for _, a := range h.Attrs {
		values[a.Name] = a.Value
	}
	value, isThere := values[g.Name]
	switch g.Op {
	case api.GAll:
		return true
	case api.GElem:
		return h.Kind == api.Elem
	case api.GNumber:
		return h.Kind == api.Number
	case api.GText:
		return h.Kind == api.Text
	case api.GLabel:
		return h.Kind == api.Elem && h.Label == g.Name
	case api.GHas:
		return isThere
	case api.GAttr:
		return isThere && value == g.Value
	case api.GBelow:
		return h.Kind == api.Number && rat(h.Num).Cmp(rat(g.At)) < 0
	case api.GWhole:
		return h.Kind == api.Number && rat(h.Num).IsInt()
	case api.GIs:
		return h.Kind == api.Text && h.Text == g.Value
	case api.GStarts:
		return h.Kind == api.Text && strings.Index(h.Text, g.Value) == 0
	case api.GNot:
		return !accepts(g.Subs[0], h)
	case api.GAnd:
		return accepts(g.Subs[0], h) && accepts(g.Subs[1], h)
	}
	return accepts(g.Subs[0], h) || accepts(g.Subs[1], h)
}

// region is what the guards of a list say of a head, 1 for those that accept it.
func region(l []api.Guard, h api.Head) string {
	s := ""
	for _, g := range l {
		if accepts(g, h) {
			s += "1"
		} else {
			s += "0"
		}
	}
	return s
}

func truthText(l []bool) string {
	s := ""
	for _, is := range l {
		s += map[bool]string{false: "0", true: "1"}[is]
	}
	return s
}

// flat is a guard, and those in it.
func flat(g api.Guard) []api.Guard {
	l := []api.Guard{g}
	for _, sub := range g.Subs {
		l = append(l, flat(sub)...)
	}
	return l
}

// names is what is named in a list.
type names struct {
	labels, attrs, texts map[string]bool
	values               map[string]map[string]bool
	numbers              map[api.Num]bool
}

func namesOf(l []api.Guard) names {
	n := names{map[string]bool{}, map[string]bool{}, map[string]bool{}, map[string]map[string]bool{}, map[api.Num]bool{}}
	for _, g := range l {
		for _, x := range flat(g) {
			switch x.Op {
			case api.GLabel:
				n.labels[x.Name] = true
			case api.GHas, api.GAttr:
				n.attrs[x.Name] = true
				if n.values[x.Name] == nil {
					n.values[x.Name] = map[string]bool{}
				}
				if x.Op == api.GAttr {
					n.values[x.Name][x.Value] = true
				}
			case api.GBelow:
				n.numbers[x.At] = true
			case api.GIs, api.GStarts:
				n.texts[x.Value] = true
			}
		}
	}
	return n
}

// another returns the strings of a set, and the first of all strings of one byte (from a byte on) that is not in it, or the empty one, if that counts.
func another(set map[string]bool, from byte, empty bool) []string {
	l := make([]string, 0, len(set)+1)
	for s := range set {
		l = append(l, s)
	}
	if empty && !set[""] {
		return append(l, "")
	}
	for set[string([]byte{from})] {
		from++
	}
	return append(l, string([]byte{from}))
}

// candidates are all candidates of a list, in no order.
func candidates(l []api.Guard) []api.Head {
	n := namesOf(l)
	heads := []api.Head{}
	for _, name := range another(n.labels, 'a', false) {
		heads = append(heads, elem(name))
	}
	attrs := make([]string, 0, 4)
	for name := range n.attrs {
		attrs = append(attrs, name)
	}
	slices.Sort(attrs)
	for _, name := range attrs { // each head that there is, with this attribute, too
		for _, h := range heads {
			for _, value := range another(n.values[name], ' ', true) {
				if len(h.Attrs) < api.MaxAttrs {
					heads = append(heads, elem(h.Label, append(slices.Clone(h.Attrs), api.Attr{Name: name, Value: value})...))
				}
			}
		}
	}
	heads = append(heads, numbers(n.numbers)...)
	n.texts[""] = true
	for s := range n.texts {
		heads = append(heads, text(s))
		for b := 32; b < 127 && len(s) < api.MaxText; b++ {
			heads = append(heads, text(s+string([]byte{byte(b)})))
		}
	}
	return heads
}

func numbers(set map[api.Num]bool) []api.Head {
	var named []api.Num
	var heads []api.Head
	for a := range set {
		named = append(named, a)
		heads = append(heads, number(a.N, a.D))
	}
	slices.SortFunc(named, func(a, b api.Num) int { return rat(a).Cmp(rat(b)) })
	for i := range len(named) + 1 {
		low, high := api.Num{N: -1, D: 0}, api.Num{N: 1, D: 0} // without bounds
		if i > 0 {
			low = named[i-1]
		}
		if i < len(named) {
			high = named[i]
		}
		for _, most := range []int{1, 1000} {
			if n, d, found := simplest(low, high, most); found {
				heads = append(heads, number(n, d))
			}
		}
	}
	return heads
}

// simplest tries all numbers in the order of simplicity: of whole ones, if `most` is 1, otherwise of others.
func simplest(low, high api.Num, most int) (n, d int, found bool) {
	for d = min(most, 2); d <= most; d++ {
		for far := 0; far <= 1010*d; far++ {
			for _, n := range []int{far, -far} {
				if low.N*d < n*low.D && n*high.D < high.N*d && new(big.Int).GCD(nil, nil, big.NewInt(int64(far)), big.NewInt(int64(d))).Int64() == 1 {
					return n, d, true
				}
			}
		}
	}
	return 0, 0, false
}

// least returns the least of the heads that are wanted.
func least(heads []api.Head, wanted func(h api.Head) bool) (first api.Head, found bool) {
	for _, h := range heads {
		if c, _ := tree.CompareHeads(h, first); wanted(h) && (!found || c < 0) {
			first, found = h, true
		}
	}
	return first, found
}

// pool is what random guards name, and random heads have.
type pool struct {
	r                           *rand.Rand
	labels, attrs, texts, value []string
	numbers                     []api.Num
}

func some[T any](r *rand.Rand, l []T, count int) []T {
	l = slices.Clone(l)
	r.Shuffle(len(l), func(i, k int) { l[i], l[k] = l[k], l[i] })
	return l[:count]
}

func newPool(seed uint64) pool {
	r := rand.New(rand.NewPCG(3, seed))
	count := 1 + r.IntN(4)
	var near []api.Num
	for d := 1; d <= 100; d++ {
		x := r.IntN(2001) - 1000
		a := big.NewRat(int64(x), int64(d))
		near = append(near, api.Num{N: int(a.Num().Int64()), D: int(a.Denom().Int64())})
	}
	known := []api.Num{{N: 0, D: 1}, {N: 1, D: 1}, {N: -1, D: 1}, {N: 1, D: 2}, {N: -1, D: 2}, {N: 2, D: 1}, {N: 5, D: 2}, {N: 1000, D: 1}, {N: -1000, D: 1}, {N: 999, D: 1}, {N: 1, D: 100}, {N: 1, D: 99}, {N: -1, D: 100}, {N: 1000, D: 99}}
	if seed%2 == 0 {
		known = near
	}
	return pool{
		r,
		some(r, []string{"a", "b", "c", "d", "e", "ab", "abcdefgh", "z9"}, count),
		some(r, []string{"a", "b", "k", "k1", "abcdefgh"}, count),
		some(r, []string{"", "a", "ab", "abc", " ", "b", `"\`, strings.Repeat("x", api.MaxText), strings.Repeat("x", api.MaxText-1)}, count),
		some(r, []string{"", " ", "!", "1", "123456789012", `"`}, count),
		some(r, known, count),
	}
}

func one[T any](p pool, l []T) T { return l[p.r.IntN(len(l))] }

// guard returns a random guard of at most so many guards.
func (p pool) guard(count int) api.Guard {
	if count > 2 && p.r.IntN(4) > 0 {
		front := 1 + p.r.IntN(count-2)
		a, b := p.guard(front), p.guard(count-1-front)
		if p.r.IntN(2) == 0 {
			return and(a, b)
		}
		return or(a, b)
	}
	if count > 1 && p.r.IntN(3) > 0 {
		return not(p.guard(count - 1))
	}
	switch p.r.IntN(11) {
	case 0:
		return label(one(p, p.labels))
	case 1, 2:
		return has(one(p, p.attrs))
	case 3, 4:
		return valued(one(p, p.attrs), one(p, p.value))
	case 5, 6:
		a := one(p, p.numbers)
		return below(a.N, a.D)
	case 7:
		return is(one(p, p.texts))
	case 8:
		return starts(one(p, p.texts))
	}
	return op(one(p, []api.GuardOp{api.GAll, api.GElem, api.GNumber, api.GText, api.GWhole}))
}

// list returns a random list of guards.
func (p pool) list(count, size int) []api.Guard {
	var l []api.Guard
	for range count {
		g := p.guard(1 + p.r.IntN(size))
		l = append(l, g)
	}
	return l
}

// head returns a random head: of what guards name, and of what they do not.
func (p pool) head() api.Head {
	switch p.r.IntN(4) {
	case 0:
		a := one(p, p.numbers)
		x := new(big.Rat).Add(rat(a), big.NewRat(int64(p.r.IntN(5)-2), int64(1+p.r.IntN(12))))
		return number(int(x.Num().Int64()), int(x.Denom().Int64()))
	case 1:
		s := one(p, p.texts) + strings.Repeat(one(p, []string{"", "a", "b", "x"}), p.r.IntN(3))
		return text(s[:min(len(s), api.MaxText)])
	}
	h := elem(one(p, append([]string{"q", "a"}, p.labels...)))
	free := append(slices.Clone(p.attrs), "q", "r")
	l := slices.Compact(slices.Sorted(slices.Values(some(p.r, free, p.r.IntN(min(4, len(free)+1))))))
	for _, name := range l {
		h.Attrs = append(h.Attrs, api.Attr{Name: name, Value: one(p, append([]string{"", "other"}, p.value...))})
	}
	return h
}

func headText(h api.Head) string {
	s, _ := tree.Print([]api.Tree{{Head: h}})
	return s
}

// guardText is what Print has to write.
func guardText(g api.Guard) string {
	value := `"` + strings.ReplaceAll(strings.ReplaceAll(g.Value, `\`, `\\`), `"`, `\"`) + `"`
	var subs []string
	for _, sub := range g.Subs {
		subs = append(subs, guardText(sub))
	}
	return map[api.GuardOp]string{
		api.GAll: "*", api.GElem: "<>", api.GNumber: "#", api.GText: "$", api.GWhole: "%",
		api.GLabel: g.Name, api.GHas: "@" + g.Name, api.GAttr: "@" + g.Name + "=" + value,
		api.GBelow: "<" + numberText(g.At),
		api.GIs:    value, api.GStarts: "^" + value,
		api.GNot: "!" + strings.Join(subs, ""), api.GAnd: "(" + strings.Join(subs, "&") + ")", api.GOr: "(" + strings.Join(subs, "|") + ")",
	}[g.Op]
}

func numberText(a api.Num) string {
	if a.D < 1 {
		return "?"
	}
	return rat(a).RatString()
}

func guardTexts(l []api.Guard) string {
	var texts []string
	for _, g := range l {
		texts = append(texts, guardText(g))
	}
	return strings.Join(texts, " ")
}

func must(t *testing.T, s string) api.Guard {
	t.Helper()
	g, e := guard.Parse(s)
	if e != api.OK {
		t.Fatalf("Parse(%q): %v", s, e)
	}
	return g
}

func mustAll(t *testing.T, texts ...string) []api.Guard {
	t.Helper()
	var l []api.Guard
	for _, s := range texts {
		l = append(l, must(t, s))
	}
	return l
}

func mustHead(t *testing.T, s string) api.Head {
	t.Helper()
	f, e := tree.Parse(s)
	if e != api.OK || len(f) != 1 {
		t.Fatalf("Parse(%q): %v", s, e)
	}
	return f[0].Head
}

func same[T comparable](t *testing.T, got, want T, what ...any) {
	t.Helper()
	if got != want {
		t.Errorf("%.300v: %v, not %v", what, got, want)
	}
}
