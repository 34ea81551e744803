package tree_test

import (
	"slices"
	"strings"
	"testing"

	"withy/api"
	"withy/tree"
)

// P2.3: the chapter's examples of places.
func TestPlaceExamples(t *testing.T) {
	f := example()
	paths, _ := tree.Paths(f)
	same(t, pathTexts(paths), "0, 0 0, 0 1, 0 1 0, 0 1 1, 0 2, 1", "Paths")
	a, e := tree.At(f, []int{0, 1, 1})
	sameForest(t, []api.Tree{a}, e, []string{"<-2", ">-2"}, api.OK, "At")
	_, e = tree.At(f, []int{0, 3})
	same(t, e, api.ErrAbsent, "At")
	_, e = tree.At(f, nil)
	same(t, e, api.ErrEmpty, "At")
	k, e := tree.Kids(f, []int{0, 2})
	sameForest(t, k, e, nil, api.OK, "Kids")
	k, e = tree.Kids(f, []int{1})
	sameForest(t, k, e, nil, api.ErrType, "Kids")
	l, _ := tree.Find(f, "b")
	same(t, pathTexts(l), "0 1, 0 2", "Find")
	for _, x := range []struct {
		path, next []int
		found      bool
	}{{nil, []int{0}, true}, {[]int{0, 1, 1}, []int{0, 2}, true}, {[]int{1}, nil, false}} {
		next, found, e := tree.Next(f, x.path)
		same(t, pathText(next), pathText(x.next), "Next", x.path)
		same(t, found, x.found, "Next", x.path)
		same(t, e, api.OK, "Next", x.path)
	}
}

// P2.3: At, Kids and Next, at all places, and at those around them.
func TestPlaces(t *testing.T) {
	for _, f := range samples(120) {
		l := marks(f)
		all := places(l)
		for _, path := range near(f) {
			p, is := placeOf(l, path)
			atE, kidsE, nextE := api.OK, api.OK, api.OK
			var wantAt, wantKids []string
			var wantNext []int
			found := false
			switch {
			case len(path) == 0:
				atE, wantKids = api.ErrEmpty, l
				if found = len(all) > 0; found {
					wantNext = all[0].path
				}
			case !is:
				atE, kidsE, nextE = api.ErrAbsent, api.ErrAbsent, api.ErrAbsent
			default:
				wantAt, wantKids = l[p.begin:p.end], l[p.begin+1:p.end-1]
				if !isElem(p.head) {
					kidsE = api.ErrType
				}
				i := 1 + slices.IndexFunc(all, func(q placed) bool { return q.begin == p.begin })
				if found = i < len(all); found {
					wantNext = all[i].path
				}
			}
			a, e := tree.At(f, path)
			if e == api.OK {
				sameForest(t, []api.Tree{a}, e, wantAt, atE, "At", forestText(f), path)
			} else {
				same(t, e, atE, "At", forestText(f), path)
				same(t, key([]api.Tree{a}), key(make([]api.Tree, 1)), "At with an error", path)
			}
			k, e := tree.Kids(f, path)
			sameForest(t, k, e, wantKids, kidsE, "Kids", forestText(f), path)
			next, has, e := tree.Next(f, path)
			same(t, e, nextE, "Next", forestText(f), path)
			same(t, has, found, "Next", forestText(f), path)
			same(t, pathText(next), pathText(wantNext), "Next", forestText(f), path)
		}
	}
}

// P2.3: Find.
func TestFind(t *testing.T) {
	for _, f := range samples(120) {
		for _, label := range []string{"a", "b", "ab", "a1", "doc", "abcdefgh", "hi", "x"} {
			var want [][]int
			for _, p := range places(marks(f)) {
				if name, _, _ := strings.Cut(p.head, "("); isElem(p.head) && name == label {
					want = append(want, p.path)
				}
			}
			l, e := tree.Find(f, label)
			same(t, pathTexts(l), pathTexts(want), "Find", forestText(f), label)
			same(t, e, api.OK, "Find", forestText(f), label)
		}
		for _, label := range []string{"", "A", "7", `"a"`, "a b", "abcdefghi", "\xff", strings.Repeat("a", 1000)} {
			l, e := tree.Find(f, label)
			same(t, len(l), 0, "Find", label)
			same(t, e, api.ErrName, "Find", label)
		}
	}
}

// P2.8: paths are those of all trees, each once, in order, as Next goes through them.
func TestPaths(t *testing.T) {
	for _, f := range samples(300) {
		l, e := tree.Paths(f)
		same(t, e, api.OK, "Paths", forestText(f))
		var want [][]int
		for _, p := range places(marks(f)) {
			want = append(want, p.path)
		}
		same(t, pathTexts(l), pathTexts(want), "Paths", forestText(f))
		if !slices.IsSortedFunc(l, slices.Compare) {
			t.Error("Paths are not in order", forestText(f), l)
		}
		size, _ := tree.Size(f)
		same(t, len(l), size, "Paths", forestText(f))
		var path []int
		for i := 0; ; i++ {
			next, found, e := tree.Next(f, path)
			same(t, e, api.OK, "Next", forestText(f), path)
			if !found || i == len(l) {
				same(t, i, len(l), "Next ends", forestText(f), path)
				same(t, found, false, "Next ends", forestText(f), path)
				break
			}
			same(t, pathText(next), pathText(l[i]), "Next", forestText(f), path)
			path = next
		}
	}
}
