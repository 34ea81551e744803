package tree_test

import (
	"fmt"
	"reflect"
	"slices"
	"sync"
	"testing"

	"withy/api"
	"withy/tree"
)

// results is what the functions of the chapter return for some arguments, and whether what comes with errors, or is not found, are zero values.
func results(f, g []api.Tree, h, i api.Head, path []int, u api.Tree, s string) (r []any, zero bool) {
	zero = true
	add := func(x any, e api.Errno) {
		zero = zero && (e == api.OK || reflect.ValueOf(x).IsZero())
		r = append(r, x, e)
	}
	forest := func(x []api.Tree, e api.Errno) { add(x, e) }
	whole := func(x int, e api.Errno) { add(x, e) }
	paths := func(x [][]int, e api.Errno) { add(x, e) }
	r = append(r, tree.CheckHead(h), tree.Check(f))
	whole(tree.Size(f))
	whole(tree.Deep(f))
	whole(tree.Digest(f))
	whole(tree.CompareHeads(h, i))
	whole(tree.Compare(f, g))
	at, e := tree.At(f, path)
	add(at, e)
	forest(tree.Kids(f, path))
	paths(tree.Paths(f))
	next, found, e := tree.Next(f, path)
	add(next, e)
	add(found, e)
	zero = zero && (found || len(next) == 0)
	paths(tree.Find(f, s))
	forest(tree.Put(f, path, u))
	forest(tree.Insert(f, path, u))
	forest(tree.Cut(f, path))
	forest(tree.Concat(f, g))
	forest(tree.Wrap(h, f))
	forest(tree.Turn(f))
	text, e := tree.Print(f)
	add(text, e)
	forest(tree.Parse(s))
	return r, zero
}

// anything are forests of all sorts, most of which have errors.
func anything() [][]api.Tree {
	l := [][]api.Tree{nil, {}, example(), row(most), chain(api.MaxDeep), chain(3, row(5)...)}
	for _, x := range wrongForests() {
		l = append(l, x.f)
	}
	return l
}

// P0.1 and R8: each function returns, whatever it is called with, and the same again, from all goroutines. P0.2 and R2: with an error all else is a zero value.
func TestAlways(t *testing.T) {
	l, paths := anything(), near(example())
	texts := []string{"", "a", "abcdefghi", `a{b(x="1") 7} "x"`, "\xff\x00", "a{"}
	h := heads()
	for _, x := range wrongHeads() {
		h = append(h, x.Head)
	}
	var group sync.WaitGroup
	for i, f := range l {
		group.Go(func() {
			for k, path := range paths {
				g, s := l[(i*7+k)%len(l)], texts[k%len(texts)]
				u := api.Tree{Head: h[(i+k)%len(h)], Kids: l[(i+k)%9]}
				first, zero := results(f, g, h[(i+k)%len(h)], h[k%len(h)], path, u, s)
				second, _ := results(f, g, h[(i+k)%len(h)], h[k%len(h)], path, u, s)
				if !reflect.DeepEqual(first, second) {
					t.Errorf("forest %d, path %.100v: not the same again", i, path)
				}
				if !zero {
					t.Errorf("forest %d, path %.100v: not zero with an error", i, path)
				}
			}
		})
	}
	group.Wait()
	want, _ := results(example(), row(2), heads()[0], heads()[1], []int{0, 1}, elem("c"), "b")
	for range 50 {
		group.Go(func() {
			if got, _ := results(example(), row(2), heads()[0], heads()[1], []int{0, 1}, elem("c"), "b"); !reflect.DeepEqual(got, want) {
				t.Errorf("not the same: %v", got)
			}
		})
	}
	group.Wait()
}

// R3: nil is as good as empty.
func TestNil(t *testing.T) {
	empty := elem("a")
	empty.Attrs, empty.Kids = []api.Attr{}, []api.Tree{}
	bare := number(7, 1)
	bare.Attrs, bare.Kids = []api.Attr{}, []api.Tree{}
	for i, x := range []struct{ f, g []api.Tree }{{nil, []api.Tree{}}, {[]api.Tree{elem("a"), number(7, 1)}, []api.Tree{empty, bare}}} {
		for _, path := range [][]int{nil, {}, {0}, {0, 0}, {1}, {1, 0}} {
			a, _ := results(x.f, x.f, head("a"), api.Head{Kind: api.Text}, path, elem("a"), "a")
			b, _ := results(x.g, x.g, empty.Head, api.Head{Kind: api.Text, Attrs: []api.Attr{}}, path, empty, "a")
			for k := range a {
				same(t, plain(b[k]), plain(a[k]), "result", k, i, path)
			}
		}
	}
}

// plain is a result as a text that does not tell nil from empty.
func plain(x any) string {
	switch x := x.(type) {
	case []api.Tree:
		return key(x)
	case api.Tree:
		return key([]api.Tree{x})
	}
	return fmt.Sprint(x)
}

// memory returns the addresses of all elements of the slices of a forest, those that are there beyond their ends included.
func memory(f []api.Tree) map[any]bool {
	found := map[any]bool{}
	var add func(f []api.Tree)
	add = func(f []api.Tree) {
		for i := range f[:cap(f)] {
			if found[&f[:cap(f)][i]] {
				found["twice"] = true
			}
			found[&f[:cap(f)][i]] = true
		}
		for _, t := range f {
			for i := range t.Attrs[:cap(t.Attrs)] {
				a := &t.Attrs[:cap(t.Attrs)][i]
				if found[a] {
					found["twice"] = true
				}
				found[a] = true
			}
			add(t.Kids)
		}
	}
	add(f)
	return found
}

// P0.3 and R4: no argument changes, no result shares memory with one, and no two slices of a result share any.
func TestMemory(t *testing.T) {
	for i, f := range samples(40) {
		g := append(samples(20)[i%20], example()...)
		if i%3 == 0 {
			g = f // the same memory twice
		}
		wide := head("a", attr("x", "1"), attr("y", "2"))
		u := api.Tree{Head: wide, Kids: example()}
		if i%2 == 0 && len(f) > 0 {
			u = f[0]
		}
		arguments := [][]api.Tree{f, g, {{Head: wide}}, {u}}
		var before []string
		others := map[any]bool{}
		for _, x := range arguments {
			before = append(before, key(x))
			for address := range memory(x) {
				others[address] = address != "twice"
			}
		}
		for _, path := range near(f) {
			kept := slices.Clone(path)
			var made [][]api.Tree
			add := func(f []api.Tree, e api.Errno) { made = append(made, f) }
			a, e := tree.At(f, path)
			add([]api.Tree{a}, e)
			add(tree.Kids(f, path))
			add(tree.Put(f, path, u))
			add(tree.Insert(f, path, u))
			add(tree.Cut(f, path))
			add(tree.Concat(f, g))
			add(tree.Wrap(wide, f))
			add(tree.Turn(f))
			for k, m := range made {
				own := memory(m)
				same(t, own["twice"], false, "a result shares memory with itself", k, i, path)
				for address := range own {
					same(t, others[address], false, "a result shares memory with an argument", k, i, path)
				}
			}
			same(t, slices.Equal(path, kept), true, "a path was changed", path)
		}
		for k, x := range arguments {
			same(t, key(x), before[k], "an argument was changed", k)
		}
	}
}

// P0.3: paths are in memory of their own.
func TestMemoryOfPaths(t *testing.T) {
	f := example()
	for _, paths := range []func() ([][]int, api.Errno){
		func() ([][]int, api.Errno) { return tree.Paths(f) },
		func() ([][]int, api.Errno) { return tree.Find(f, "b") },
	} {
		l, _ := paths()
		fresh, _ := paths()
		found := map[*int]bool{}
		for i := range l {
			whole := l[i][:cap(l[i])]
			for k := range whole {
				same(t, found[&whole[k]], false, "paths share memory", i)
				found[&whole[k]] = true
				whole[k] = -7
			}
		}
		after, _ := paths()
		same(t, pathTexts(after), pathTexts(fresh), "paths share memory with other results")
	}
	path := []int{0, 1}
	for i := range path {
		next, _, _ := tree.Next(f, path[:i])
		next[0] = 9
		same(t, pathText(path), "0 1", "Next shares memory")
	}
}
