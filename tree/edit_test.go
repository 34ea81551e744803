package tree_test

import (
	"slices"
	"testing"

	"withy/api"
	"withy/tree"
)

// P2.4: the chapter's examples of edits.
func TestEditExamples(t *testing.T) {
	f, c := example(), elem("c")
	type result struct {
		f []api.Tree
		e api.Errno
	}
	of := func(f []api.Tree, e api.Errno) result { return result{f, e} }
	for i, x := range []struct {
		result
		want string
		e    api.Errno
	}{
		{of(tree.Put(f, []int{0, 1}, text("x"))), `doc(lang="en"){"hi" "x" b} 7`, api.OK},
		{of(tree.Cut(f, []int{0, 0})), `doc(lang="en"){b{3/4 -2} b} 7`, api.OK},
		{of(tree.Insert(f, []int{0, 2, 0}, c)), `doc(lang="en"){"hi" b{3/4 -2} b{c}} 7`, api.OK},
		{of(tree.Insert(f, []int{2}, c)), `doc(lang="en"){"hi" b{3/4 -2} b} 7 c`, api.OK},
		{of(tree.Insert(f, []int{1, 0}, c)), "", api.ErrType},
		{of(tree.Turn(f)), `7 doc(lang="en"){b b{-2 3/4} "hi"}`, api.OK},
		{of(tree.Wrap(head("a"), []api.Tree{number(7, 1)})), "a{7}", api.OK},
		{of(tree.Insert(f, []int{3}, c)), "", api.ErrAbsent},
		{of(tree.Insert(f, []int{5, 0}, c)), "", api.ErrAbsent},
		{of(tree.Insert(f, []int{1, 0, 0}, c)), "", api.ErrAbsent}, // there is nothing at 1 0
		{of(tree.Insert(f, []int{1, 5}, c)), "", api.ErrType},      // beside which nothing can be
		{of(tree.Insert(f, nil, c)), "", api.ErrEmpty},
		{of(tree.Insert(nil, []int{0}, c)), "c", api.OK},
		{of(tree.Cut([]api.Tree{c}, []int{0})), "", api.OK},
	} {
		same(t, forestText(x.f), x.want, "edit", i)
		same(t, x.result.e, x.e, "edit", i)
	}
}

// insertion returns where in the marks a tree has to be inserted at a path, or the error of the path.
func insertion(l []string, path []int) (int, api.Errno) {
	if len(path) == 0 {
		return 0, api.ErrEmpty
	}
	last := len(path) - 1
	at := 0
	if last > 0 {
		up, is := placeOf(l, path[:last])
		switch {
		case !is:
			return 0, api.ErrAbsent
		case !isElem(up.head):
			return 0, api.ErrType
		}
		at = up.begin + 1
	}
	if path[last] == 0 {
		return at, api.OK
	}
	beside := slices.Clone(path)
	beside[last]--
	left, is := placeOf(l, beside)
	if !is {
		return 0, api.ErrAbsent
	}
	return left.end, api.OK
}

// P2.4: Put, Insert and Cut, at all places, and at those around them; P2.6: all that is beside a place, or around it, stays.
func TestEdits(t *testing.T) {
	in := []api.Tree{elem("c"), number(1, 2), text("x"), {Head: head("a", attr("x", "1")), Kids: example()}, chain(api.MaxDeep)[0], elem("a", row(most-1)...), elem("a", row(most-4)...)}
	for i, f := range samples(90) {
		l := marks(f)
		for k, path := range near(f) {
			u := in[(i+k)%len(in)]
			p, is := placeOf(l, path)
			e := api.OK
			switch {
			case len(path) == 0:
				e = api.ErrEmpty
			case !is:
				e = api.ErrAbsent
			}
			put := slices.Concat(l[:p.begin], marks([]api.Tree{u}), l[p.end:])
			cut := slices.Concat(l[:p.begin], l[p.end:])
			putE := e
			if e == api.OK {
				putE = sized(put)
			}
			got, gotE := tree.Put(f, path, u)
			sameForest(t, got, gotE, put, putE, "Put", forestText(f), path)
			got, gotE = tree.Cut(f, path)
			sameForest(t, got, gotE, cut, e, "Cut", forestText(f), path)
			at, e := insertion(l, path)
			inserted := slices.Concat(l[:at], marks([]api.Tree{u}), l[at:])
			if e == api.OK {
				e = sized(inserted)
			}
			got, gotE = tree.Insert(f, path, u)
			sameForest(t, got, gotE, inserted, e, "Insert", forestText(f), path)
		}
	}
}

// P2.4: Concat, Wrap and Turn.
func TestWholes(t *testing.T) {
	l := samples(80)
	for i, f := range l {
		m := marks(f)
		for _, g := range l {
			both := append(slices.Clone(m), marks(g)...)
			got, e := tree.Concat(f, g)
			sameForest(t, got, e, both, sized(both), "Concat", forestText(f), forestText(g))
		}
		h := heads()[i%len(heads())]
		around := marks([]api.Tree{{Head: h, Kids: f}})
		want := sized(around)
		if h.Kind != api.Elem {
			want = api.ErrType
		}
		got, e := tree.Wrap(h, f)
		sameForest(t, got, e, around, want, "Wrap", h, forestText(f))
		got, e = tree.Turn(f)
		sameForest(t, got, e, turned(m), api.OK, "Turn", forestText(f))
	}
}

// turned are the marks from the last one on, each beginning as an end, and each end as a beginning.
func turned(l []string) []string {
	var back []string
	for _, m := range slices.Backward(l) {
		side := "<"
		if m[0] == '<' {
			side = ">"
		}
		back = append(back, side+m[1:])
	}
	return back
}

// R1: the errors of what is handed in come first, in their order; then those of the path; then those of the result.
func TestOrderOfErrors(t *testing.T) {
	bad, many, deep := elem("A"), row(most+1), chain(api.MaxDeep+1)
	f, full := example(), row(most)
	for i, x := range []struct {
		do   func() ([]api.Tree, api.Errno)
		want api.Errno
	}{
		{func() ([]api.Tree, api.Errno) { return tree.Put(many, nil, bad) }, api.ErrMany},
		{func() ([]api.Tree, api.Errno) { return tree.Put(f, nil, bad) }, api.ErrName},
		{func() ([]api.Tree, api.Errno) { return tree.Put(f, []int{9}, deep[0]) }, api.ErrLimit},
		{func() ([]api.Tree, api.Errno) { return tree.Put(f, nil, elem("a", full...)) }, api.ErrMany},
		{func() ([]api.Tree, api.Errno) { return tree.Put(full, []int{}, chain(2)[0]) }, api.ErrEmpty},
		{func() ([]api.Tree, api.Errno) { return tree.Put(full, []int{most}, chain(2)[0]) }, api.ErrAbsent},
		{func() ([]api.Tree, api.Errno) { return tree.Put(full, []int{most - 1}, chain(2)[0]) }, api.ErrMany},
		{func() ([]api.Tree, api.Errno) { return tree.Put(full, []int{most - 1}, chain(1)[0]) }, api.OK},
		{func() ([]api.Tree, api.Errno) {
			return tree.Put(chain(api.MaxDeep), make([]int, api.MaxDeep), chain(2)[0])
		}, api.ErrLimit},
		{func() ([]api.Tree, api.Errno) {
			return tree.Put(chain(api.MaxDeep, row(0)...), make([]int, api.MaxDeep), elem("a", full[1:]...))
		}, api.ErrMany}, // too large before too deep
		{func() ([]api.Tree, api.Errno) { return tree.Insert(many, nil, bad) }, api.ErrMany},
		{func() ([]api.Tree, api.Errno) { return tree.Insert(f, nil, bad) }, api.ErrName},
		{func() ([]api.Tree, api.Errno) { return tree.Insert(full, []int{1, 1}, elem("a")) }, api.ErrAbsent},
		{func() ([]api.Tree, api.Errno) { return tree.Insert(full, []int{1, 0}, elem("a")) }, api.ErrMany},
		{func() ([]api.Tree, api.Errno) { return tree.Insert(full[1:], []int{1, 0}, elem("a")) }, api.OK},
		{func() ([]api.Tree, api.Errno) {
			return tree.Insert(chain(api.MaxDeep), make([]int, api.MaxDeep+1), elem("a"))
		}, api.ErrLimit},
		{func() ([]api.Tree, api.Errno) { return tree.Cut(many, nil) }, api.ErrMany},
		{func() ([]api.Tree, api.Errno) { return tree.Cut(nil, nil) }, api.ErrEmpty},
		{func() ([]api.Tree, api.Errno) { return tree.Cut(nil, []int{0}) }, api.ErrAbsent},
		{func() ([]api.Tree, api.Errno) { return tree.Concat(deep, many) }, api.ErrLimit},
		{func() ([]api.Tree, api.Errno) { return tree.Concat(full, deep) }, api.ErrLimit},
		{func() ([]api.Tree, api.Errno) { return tree.Concat(full, row(1)) }, api.ErrMany},
		{func() ([]api.Tree, api.Errno) { return tree.Concat(full[1:], row(1)) }, api.OK},
		{func() ([]api.Tree, api.Errno) { return tree.Wrap(bad.Head, many) }, api.ErrName},
		{func() ([]api.Tree, api.Errno) { return tree.Wrap(text("").Head, many) }, api.ErrMany},
		{func() ([]api.Tree, api.Errno) { return tree.Wrap(text("").Head, full) }, api.ErrType},
		{func() ([]api.Tree, api.Errno) { return tree.Wrap(head("a"), full) }, api.ErrMany},
		{func() ([]api.Tree, api.Errno) { return tree.Wrap(head("a"), full[1:]) }, api.OK},
		{func() ([]api.Tree, api.Errno) { return tree.Wrap(head("a"), chain(api.MaxDeep)) }, api.ErrLimit},
		{func() ([]api.Tree, api.Errno) { return tree.Wrap(head("a"), chain(api.MaxDeep-1)) }, api.OK},
		{func() ([]api.Tree, api.Errno) { return tree.Kids(many, []int{-1}) }, api.ErrMany},
		{func() ([]api.Tree, api.Errno) { return tree.Turn(deep) }, api.ErrLimit},
	} {
		f, e := x.do()
		same(t, e, x.want, "edit", i)
		if e != api.OK {
			same(t, len(f), 0, "edit", i)
		}
	}
	_, e := tree.At(many, nil)
	same(t, e, api.ErrMany, "At")
	_, e = tree.Find(many, "A")
	same(t, e, api.ErrMany, "Find")
	_, _, e = tree.Next(many, []int{-1})
	same(t, e, api.ErrMany, "Next")
}

// P2.6: what is put at a place is there; putting back what was there gives the forest as it was.
func TestPut(t *testing.T) {
	in := []api.Tree{elem("c"), number(1, 2), text("x"), {Head: head("a", attr("x", "1")), Kids: example()}}
	for i, f := range samples(200) {
		paths, _ := tree.Paths(f)
		for k, path := range paths {
			u := in[(i+k)%len(in)]
			was, _ := tree.At(f, path)
			g, e := tree.Put(f, path, u)
			if e != api.OK {
				continue
			}
			there, e := tree.At(g, path)
			sameForest(t, []api.Tree{there}, e, marks([]api.Tree{u}), api.OK, "put", forestText(f), path)
			back, e := tree.Put(g, path, was)
			sameForest(t, back, e, marks(f), api.OK, "put back", forestText(f), path)
		}
	}
}

// P2.7: what is inserted and cut again leaves the forest; sizes add up.
func TestInserted(t *testing.T) {
	in := []api.Tree{elem("c"), number(1, 2), text("x"), {Head: head("a", attr("x", "1")), Kids: example()}}
	for i, f := range samples(200) {
		for k, path := range near(f) {
			u := in[(i+k)%len(in)]
			g, e := tree.Insert(f, path, u)
			if e != api.OK {
				continue
			}
			there, e := tree.At(g, path)
			sameForest(t, []api.Tree{there}, e, marks([]api.Tree{u}), api.OK, "inserted", forestText(f), path)
			before, _ := tree.Size(f)
			more, _ := tree.Size([]api.Tree{u})
			after, _ := tree.Size(g)
			same(t, after, before+more, "sizes", forestText(f), path)
			back, e := tree.Cut(g, path)
			sameForest(t, back, e, marks(f), api.OK, "cut again", forestText(f), path)
		}
	}
}

// P2.10: a forest that is turned twice is itself; trees are where they are counted from the other side.
func TestTurned(t *testing.T) {
	for _, f := range samples(200) {
		g, _ := tree.Turn(f)
		back, e := tree.Turn(g)
		sameForest(t, back, e, marks(f), api.OK, "turned twice", forestText(f))
		paths, _ := tree.Paths(f)
		for _, path := range paths {
			other := slices.Clone(path)
			for d := range path {
				beside, _ := tree.Kids(f, path[:d])
				other[d] = len(beside) - 1 - path[d]
			}
			here, _ := tree.At(f, path)
			there, e := tree.At(g, other)
			same(t, e, api.OK, "turned", forestText(f), path)
			same(t, headText(there.Head), headText(here.Head), "turned", forestText(f), path)
		}
	}
}
