package guard

import (
	"iter"
	"maps"
	"slices"
	"sync"

	"withy/api"
	"withy/tree"
)

// list is guards that have no error, and what they name together.
type list struct {
	marks
	guards []checked
}

// newList returns guards as a list, or the error that they have as one.
func newList(l ...api.Guard) (list, api.Errno) {
	if len(l) > api.MaxList {
		return list{}, api.ErrMany
	}
	for _, g := range l {
		if e := Check(g); e != api.OK {
			return list{}, e
		}
	}
	k := list{marks: marksOf(l)}
	if k.tooMany() {
		return list{}, api.ErrLimit
	}
	table := acts()
	for _, g := range l {
		k.guards = append(k.guards, compile(g, table))
	}
	return k, api.OK
}

// truths tell of each guard of a list whether it accepts a head. They are an array, so that they can be keys; behind the guards they are false.
type truths [api.MaxList]bool

func (l list) truthsOf(h api.Head) truths {
	var t truths
	for i, g := range l.guards {
		t[i] = g.accepts(h)
	}
	return t
}

// compareTruths compares lists of bools, where they differ first, false before true.
func compareTruths(a, b truths) int {
	for i, is := range a {
		switch {
		case is && !b[i]:
			return 1
		case !is && b[i]:
			return -1
		}
	}
	return 0
}

// least keeps the least of what it is shown.
type least[T any] struct {
	kept  T
	found bool
}

func (l *least[T]) show(x T, compare func(a, b T) int) {
	if !l.found || compare(x, l.kept) < 0 {
		l.kept, l.found = x, true
	}
}

// compareHeads compares valid heads.
func compareHeads(h, i api.Head) int {
	c, _ := tree.CompareHeads(h, i)
	return c
}

// leasts are the least candidates of regions.
type leasts map[truths]*least[api.Head]

func (l leasts) show(t truths, h api.Head) {
	if l[t] == nil {
		l[t] = &least[api.Head]{}
	}
	l[t].show(h, compareHeads)
}

func (l leasts) inOrder() []truths { return slices.SortedFunc(maps.Keys(l), compareTruths) }

// survey looks at the candidates of all kinds at the same time. In which order they come together makes no difference to what is least.
func (l list) survey() leasts {
	candidates := l.candidates()
	parts := make(chan leasts, len(candidates))
	var group sync.WaitGroup
	for _, kind := range candidates {
		group.Go(func() { parts <- l.look(kind) })
	}
	group.Wait()
	close(parts)
	all := leasts{}
	for part := range parts {
		for t, h := range part {
			all.show(t, h.kept)
		}
	}
	return all
}

func (l list) look(candidates iter.Seq[api.Head]) leasts {
	seen := leasts{}
	for h := range candidates {
		seen.show(l.truthsOf(h), h)
	}
	return seen
}

// refute returns the least candidate of a list of guards of which something is true, or that there is none.
func refute(isTrue func(t truths) bool, l ...api.Guard) (h api.Head, none bool, e api.Errno) {
	k, e := newList(l...)
	if e != api.OK {
		return api.Head{}, false, e
	}
	var first least[api.Head]
	for t, h := range k.survey() {
		if isTrue(t) {
			first.show(h.kept, compareHeads)
		}
	}
	return first.kept, !first.found, api.OK
}
