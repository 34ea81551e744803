package tree_test

import (
	"math/big"
	"math/rand/v2"
	"slices"
	"strconv"
	"strings"
	"testing"

	"withy/api"
	"withy/tree"
)

// The tests hold what the functions return against marks: a forest as a flat list in which each tree begins and ends with a mark. What is asked of trees is asked of the list, so that no code is shared with the package.

const most = api.MaxTrees

func attr(name, value string) api.Attr { return api.Attr{Name: name, Value: value} }

func head(label string, attrs ...api.Attr) api.Head { return api.Head{Label: label, Attrs: attrs} }

func elem(label string, kids ...api.Tree) api.Tree { return api.Tree{Head: head(label), Kids: kids} }

func number(n, d int) api.Tree {
	return api.Tree{Head: api.Head{Kind: api.Number, Num: api.Num{N: n, D: d}}}
}

func text(s string) api.Tree { return api.Tree{Head: api.Head{Kind: api.Text, Text: s}} }

// example is F of the chapter.
func example() []api.Tree {
	doc := elem("doc", text("hi"), elem("b", number(3, 4), number(-2, 1)), elem("b"))
	doc.Attrs = []api.Attr{attr("lang", "en")}
	return []api.Tree{doc, number(7, 1)}
}

// chain is an element in another one, so many times, around a forest.
func chain(count int, f ...api.Tree) []api.Tree {
	for range count {
		f = []api.Tree{elem("a", f...)}
	}
	return f
}

func row(count int) []api.Tree { return slices.Repeat([]api.Tree{elem("b")}, count) }

// endless are forests that hold themselves.
func endless() [][]api.Tree {
	one := []api.Tree{elem("a")}
	one[0].Kids = one
	two := []api.Tree{elem("a"), number(1, 1)}
	two[0].Kids, two[1].Kids = two, two
	return [][]api.Tree{one, two, {elem("a"), {Kids: one}}}
}

// doubled are forests of few slices, but of very many trees.
func doubled() []api.Tree {
	f := []api.Tree{elem("a"), elem("a")}
	for range 60 {
		f = []api.Tree{elem("a", f...), elem("a", f...)}
	}
	return f
}

// heads are valid ones of all kinds, up to their bounds; the first 14 are those of elements.
func heads() []api.Head {
	return []api.Head{
		head("a"), head("b"), head("ab"), head("a1"), head("abcdefgh"), head("z9z9z9z9"),
		head("a", attr("x", "")), head("a", attr("x", "1")), head("a", attr("x", "1"), attr("y", "")), head("a", attr("y", "")), head("a", attr("xx", "")), head("a", attr("x", `"\`)), head("b", attr("x", "")),
		head("a", attr("a", "123456789012"), attr("b", "~"), attr("c0000000", " ")),
		number(0, 1).Head, number(7, 1).Head, number(-2, 1).Head, number(3, 4).Head, number(-1, 2).Head, number(1, 3).Head, number(api.MaxNum, 1).Head, number(-api.MaxNum, api.MaxNum-1).Head, number(1, api.MaxNum).Head,
		text("").Head, text("a").Head, text("ab").Head, text("b").Head, text("7").Head, text(" ").Head, text(`"`).Head, text(`\`).Head, text(`\"\\""`).Head, text("{}(),=~!").Head, text(strings.Repeat("x", api.MaxText)).Head,
	}
}

// random returns a forest of at most so many trees.
func random(r *rand.Rand, count int) []api.Tree {
	var f []api.Tree
	for left := r.IntN(count + 1); left > 0; {
		t := api.Tree{Head: heads()[r.IntN(len(heads()))]}
		left--
		if t.Kind == api.Elem {
			t.Kids = random(r, left)
			left -= len(marks(t.Kids)) / 2
		}
		f = append(f, t)
	}
	return f
}

// samples are forests of all sizes, the same ones each time.
func samples(count int) [][]api.Tree {
	r := rand.New(rand.NewPCG(2, uint64(count)))
	l := [][]api.Tree{nil, {}, example(), row(most), row(most - 1), chain(api.MaxDeep), chain(api.MaxDeep-1, row(3)...), chain(2, row(most-2)...)}
	for _, h := range heads() {
		l = append(l, []api.Tree{{Head: h}})
	}
	for i := range count {
		l = append(l, random(r, 1+i%12))
	}
	return l
}

// marks are `<` and the text of a head where a tree begins, `>` and the same where it ends.
func marks(f []api.Tree) []string {
	var l []string
	for _, t := range f {
		h := headText(t.Head)
		l = append(l, "<"+h)
		l = append(l, marks(t.Kids)...)
		l = append(l, ">"+h)
	}
	return l
}

func headText(h api.Head) string {
	switch h.Kind {
	case api.Number:
		return strings.TrimSuffix(big.NewRat(int64(h.Num.N), int64(h.Num.D)).String(), "/1")
	case api.Text:
		return stringText(h.Text)
	}
	var l []string
	for _, a := range h.Attrs {
		l = append(l, a.Name+"="+stringText(a.Value))
	}
	if len(l) == 0 {
		return h.Label
	}
	return h.Label + "(" + strings.Join(l, ",") + ")"
}

func stringText(s string) string {
	return `"` + strings.ReplaceAll(strings.ReplaceAll(s, `\`, `\\`), `"`, `\"`) + `"`
}

// forestText is what Print has to return.
func forestText(f []api.Tree) string {
	var l []string
	for _, t := range f {
		s := headText(t.Head)
		if len(t.Kids) > 0 {
			s += "{" + forestText(t.Kids) + "}"
		}
		l = append(l, s)
	}
	return strings.Join(l, " ")
}

// placed is a tree by its marks: its path, where in the list it begins and ends, and the text of its head.
type placed struct {
	path       []int
	begin, end int
	head       string
}

// places are the trees that the marks are of, in order.
func places(l []string) []placed {
	var found []placed
	var open []int // indexes in found
	path := []int{0}
	for i, m := range l {
		last := len(path) - 1
		if m[0] == '<' {
			open = append(open, len(found))
			found = append(found, placed{slices.Clone(path), i, 0, m[1:]})
			path = append(path, 0)
			continue
		}
		path = path[:last]
		path[last-1]++
		found[open[last-1]].end = i + 1
		open = open[:last-1]
	}
	return found
}

func placeOf(l []string, path []int) (placed, bool) {
	for _, p := range places(l) {
		if slices.Equal(p.path, path) {
			return p, true
		}
	}
	return placed{}, false
}

func isElem(headText string) bool { return headText[0] >= 'a' && headText[0] <= 'z' }

// near are the paths of the trees of a forest (of a large one, of some trees), and those around them: of kids that are not there, of neighbours that are not there.
func near(f []api.Tree) [][]int {
	l := [][]int{nil, {}, {0}, {-1}, {0, 0, 0, 0}, {1 << 62}, {-1 << 63, 0}, make([]int, 3000)}
	all := places(marks(f))
	for i, p := range all {
		if i > 15 && i < len(all)-5 && i%41 != 0 {
			continue
		}
		last := len(p.path) - 1
		after, before := slices.Clone(p.path), slices.Clone(p.path)
		after[last]++
		before[last] = -1
		l = append(l, p.path, after, before, append(slices.Clone(p.path), 0), append(slices.Clone(p.path), 1), append(slices.Clone(after), 0), append(slices.Clone(p.path), -1), append(slices.Clone(p.path), 0, 0))
	}
	return l
}

// sized returns the error of a forest that was made of valid ones, by its marks.
func sized(l []string) api.Errno {
	deepest := 0
	for _, p := range places(l) {
		deepest = max(deepest, len(p.path))
	}
	switch {
	case len(l) > 2*most:
		return api.ErrMany
	case deepest > api.MaxDeep:
		return api.ErrLimit
	}
	return api.OK
}

func must(t *testing.T, s string) []api.Tree {
	t.Helper()
	f, e := tree.Parse(s)
	if e != api.OK {
		t.Fatalf("Parse(%q): %v", s, e)
	}
	return f
}

func same[T comparable](t *testing.T, got, want T, what ...any) {
	t.Helper()
	if got != want {
		t.Errorf("%.300v: %v, not %v", what, got, want)
	}
}

// sameForest is for a forest that has to have those marks, or, with an error, no trees.
func sameForest(t *testing.T, f []api.Tree, e api.Errno, want []string, wantE api.Errno, what ...any) {
	t.Helper()
	if wantE != api.OK {
		want = nil
	}
	if e != wantE || !slices.Equal(marks(f), want) {
		t.Errorf("%.300v: %s, %v, not %s, %v", what, forestText(f), e, strings.Join(want, ""), wantE)
	}
}

func pathText(path []int) string {
	var l []string
	for _, i := range path {
		l = append(l, strconv.Itoa(i))
	}
	return strings.Join(l, " ")
}

func pathTexts(paths [][]int) string {
	var l []string
	for _, p := range paths {
		l = append(l, pathText(p))
	}
	return strings.Join(l, ", ")
}
