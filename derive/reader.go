package derive

import (
	"sync"

	"withy/api"
	"withy/guard"
	"withy/share"
)

// list has, for each definition, the derivative of its Body by a forest, by its number in the shop of the definition. It is an array, so that it can be a key.
type list [api.MaxDefs]node

// reader reads forests. Each definition has a shop of its own, so that goroutines can look at all of them at the same time.
type reader struct {
	checked
	shops []*shop
	start list // of the empty forest
}

func newReader(c checked) reader {
	d := reader{checked: c}
	for def := range c.Defs {
		s := newShop(c)
		d.shops = append(d.shops, s)
		d.start[def] = s.bodies[def]
	}
	return d
}

// found is what was found for a definition.
type found[T any] struct {
	def  int
	what T
}

// each returns what is found for each definition, by a goroutine that alone has its shop.
func each[T any](d reader, find func(def int, s *shop) T) []T {
	results := make(chan found[T], len(d.shops))
	var group sync.WaitGroup
	for def, s := range d.shops {
		group.Go(func() { results <- found[T]{def, find(def, s)} })
	}
	group.Wait()
	close(results)
	l := make([]T, len(d.shops))
	for r := range results {
		l[r.def] = r.what
	}
	return l
}

// bounded returns a derivative that is not too large. It is not called by goroutines, because nobody recovers what panics there.
func bounded(x node) node {
	if x == nothing {
		panic(share.Beyond{})
	}
	return x
}

// list returns the list of a forest.
func (d reader) list(f []api.Tree) list {
	l := d.start
	if len(f) == 0 {
		return l
	}
	letters := d.letters(f)
	for def, x := range each(d, func(def int, s *shop) node { return s.along(d.start[def], letters) }) {
		l[def] = bounded(x)
	}
	return l
}

// letters returns what expressions are told of the trees of a forest.
func (d reader) letters(f []api.Tree) []letter {
	return share.Mapped(f, func(t api.Tree) letter {
		accepted := share.Mapped(d.guards, func(g api.Guard) bool { return accepts(g, t.Head) })
		return d.letter(accepted, d.profile(d.list(t.Kids)))
	})
}

// accepts is whether a guard accepts a head, both without errors.
func accepts(g api.Guard, h api.Head) bool {
	is, _ := guard.Holds(g, h)
	return is
}

// profile returns, for each definition, whether forests with a list are of it.
func (d reader) profile(l list) []bool {
	var is []bool
	for def, s := range d.shops {
		is = append(is, s.items[l[def]].null)
	}
	return is
}

// expressions returns the expressions of a list.
func (d reader) expressions(l list) []api.Re {
	var left []api.Re
	for def, s := range d.shops {
		r := s.expression(l[def])
		left = append(left, r)
	}
	return left
}
