package tree

import (
	"slices"

	"withy/api"
)

// At returns the tree at a path.
func At(f []api.Tree, path []int) (api.Tree, api.Errno) {
	if e := firstError(Check(f), checkPlace(f, path)); e != api.OK {
		return api.Tree{}, e
	}
	t, _ := treeAt(f, path)
	return cloneTree(t), api.OK
}

// Kids returns the forest at a path.
func Kids(f []api.Tree, path []int) ([]api.Tree, api.Errno) {
	if e := Check(f); e != api.OK {
		return nil, e
	}
	l, e := forestAt(f, path)
	return clone(l), e
}

// Paths returns the paths of all trees, in order.
func Paths(f []api.Tree) ([][]int, api.Errno) {
	if e := Check(f); e != api.OK {
		return nil, e
	}
	return pathsOf(f, func(api.Tree) bool { return true }), api.OK
}

// Next returns the path behind a path, and whether there is one.
func Next(f []api.Tree, path []int) (next []int, found bool, e api.Errno) {
	if e := Check(f); e != api.OK {
		return nil, false, e
	}
	if _, is := treeAt(f, path); !is && len(path) > 0 {
		return nil, false, api.ErrAbsent
	}
	for p := range trees(f) {
		if slices.Compare(p, path) > 0 {
			return slices.Clone(p), true, api.OK
		}
	}
	return nil, false, api.OK
}

// Find returns the paths of the elements that have a label, in order.
func Find(f []api.Tree, label string) ([][]int, api.Errno) {
	if e := Check(f); e != api.OK {
		return nil, e
	}
	if !isName(label) {
		return nil, api.ErrName
	}
	return pathsOf(f, func(t api.Tree) bool { return t.Label == label }), api.OK // only elements have a label that is not empty
}

func pathsOf(f []api.Tree, wanted func(api.Tree) bool) [][]int {
	var l [][]int
	for path, t := range trees(f) {
		if wanted(t) {
			l = append(l, slices.Clone(path))
		}
	}
	return l
}

// checkPlace returns the error of a path of which a tree is asked.
func checkPlace(f []api.Tree, path []int) api.Errno {
	if len(path) == 0 {
		return api.ErrEmpty
	}
	if _, found := treeAt(f, path); !found {
		return api.ErrAbsent
	}
	return api.OK
}

// treeAt returns the tree at a path, and whether there is one.
func treeAt(f []api.Tree, path []int) (t api.Tree, found bool) {
	for _, i := range path {
		if i < 0 || i >= len(f) {
			return api.Tree{}, false
		}
		t, found = f[i], true
		f = t.Kids
	}
	return t, found
}

// forestAt returns the forest at a path, or the error of a path at which there is none.
func forestAt(f []api.Tree, path []int) ([]api.Tree, api.Errno) {
	if len(path) == 0 {
		return f, api.OK
	}
	t, found := treeAt(f, path)
	switch {
	case !found:
		return nil, api.ErrAbsent
	case t.Kind != api.Elem:
		return nil, api.ErrType
	}
	return t.Kids, api.OK
}
