package tree

import (
	"slices"

	"withy/api"
)

// Put returns the forest in which t stands in the place of the tree at the path.
func Put(f []api.Tree, path []int, t api.Tree) ([]api.Tree, api.Errno) {
	if e := firstError(Check(f), Check([]api.Tree{t}), checkPlace(f, path)); e != api.OK {
		return nil, e
	}
	return splice(f, path, 1, t)
}

// Insert returns the forest in which t is the tree at the path, and what was there comes after it.
func Insert(f []api.Tree, path []int, t api.Tree) ([]api.Tree, api.Errno) {
	if e := firstError(Check(f), Check([]api.Tree{t})); e != api.OK {
		return nil, e
	}
	if len(path) == 0 {
		return nil, api.ErrEmpty
	}
	last := len(path) - 1
	beside, e := forestAt(f, path[:last])
	if e != api.OK {
		return nil, e
	}
	if path[last] < 0 || path[last] > len(beside) {
		return nil, api.ErrAbsent
	}
	return splice(f, path, 0, t)
}

// Cut returns the forest without the tree at the path.
func Cut(f []api.Tree, path []int) ([]api.Tree, api.Errno) {
	if e := firstError(Check(f), checkPlace(f, path)); e != api.OK {
		return nil, e
	}
	return splice(f, path, 1)
}

// Concat returns the trees of both forests.
func Concat(f, g []api.Tree) ([]api.Tree, api.Errno) {
	if e := firstError(Check(f), Check(g)); e != api.OK {
		return nil, e
	}
	return within(slices.Concat(clone(f), clone(g)))
}

// Wrap returns the forest of one element with the head h, and the kids f.
func Wrap(h api.Head, f []api.Tree) ([]api.Tree, api.Errno) {
	if e := firstError(CheckHead(h), Check(f)); e != api.OK {
		return nil, e
	}
	if h.Kind != api.Elem {
		return nil, api.ErrType
	}
	return within([]api.Tree{cloneTree(api.Tree{Head: h, Kids: f})})
}

// Turn returns the forest with its trees, and the kids of each, in the other order.
func Turn(f []api.Tree) ([]api.Tree, api.Errno) {
	if e := Check(f); e != api.OK {
		return nil, e
	}
	g := clone(f)
	turn(g)
	return g, api.OK
}

// turn changes what it is given.
func turn(f []api.Tree) {
	slices.Reverse(f)
	for _, t := range f {
		turn(t.Kids)
	}
}

// splice returns a copy of a forest, from which so many trees are taken out at the path, and others are put there.
func splice(f []api.Tree, path []int, out int, in ...api.Tree) ([]api.Tree, api.Errno) {
	g := clone(f)
	list := &g
	last := len(path) - 1
	for _, i := range path[:last] {
		list = &(*list)[i].Kids
	}
	front, behind := (*list)[:path[last]], (*list)[path[last]+out:]
	*list = slices.Concat(front, clone(in), behind)
	return within(g)
}

// within returns a forest that was made of valid ones, or the error that it has if it is too large, or too deep.
func within(f []api.Tree) ([]api.Tree, api.Errno) {
	if e := checkBounds(f); e != api.OK {
		return nil, e
	}
	return f, api.OK
}

// clone returns a forest that shares no memory with f: nil if it has no trees.
func clone(f []api.Tree) []api.Tree {
	if len(f) == 0 {
		return nil
	}
	g := make([]api.Tree, len(f))
	for i, t := range f {
		g[i] = cloneTree(t)
	}
	return g
}

func cloneTree(t api.Tree) api.Tree {
	t.Attrs = slices.Clone(t.Attrs)
	t.Kids = clone(t.Kids)
	return t
}
