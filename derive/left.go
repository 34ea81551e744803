package derive

import "withy/api"

// behind finds derivatives by a tree, which is told by a letter. Each expression has one, however often it is there.
type behind struct {
	*shop
	by    letter
	found map[node]node
}

// left returns the derivative of a normal form.
func (b behind) left(x node) node {
	if y, is := b.found[x]; is {
		return y
	}
	f := b.items[x].form
	y := b.rules[f.op].left(b, f)
	b.found[x] = y
	return y
}

// pair returns the normal form of an expression of two normal forms.
func (b behind) pair(op api.ReOp, x, y node) node {
	return b.made(form{op: op, subs: [2]node{x, y}})
}

func (b behind) none(form) node { return none }

func (b behind) tree(f form) node {
	if b.by.has(f.what) {
		return empty
	}
	return none
}

func (b behind) sequence(f form) node {
	first, second := f.subs[0], f.subs[1]
	x := b.pair(api.RSeq, b.left(first), second)
	if !b.items[first].null {
		return x
	}
	return b.pair(api.RAlt, x, b.left(second))
}

// same is the derivative that is the same of the derivatives of Subs.
func (b behind) same(f form) node {
	for i, sub := range f.subs {
		y := b.left(sub)
		f.subs[i] = y
	}
	return b.made(f)
}

func (b behind) star(f form) node {
	return b.pair(api.RSeq, b.left(f.subs[0]), b.store(f))
}

func (b behind) mix(f form) node {
	first, second := f.subs[0], f.subs[1]
	x := b.pair(api.RMix, b.left(first), second)
	y := b.pair(api.RMix, first, b.left(second))
	return b.pair(api.RAlt, x, y)
}

func (b behind) body(f form) node { return b.left(b.bodies[f.what]) }

// next returns the derivative of a normal form by a tree, or nothing if it is too large; of nothing, nothing.
func (s *shop) next(x node, by letter) node {
	now := step{x, by.and(s.items[x].atoms)}
	if y, is := s.steps[now]; is {
		return y
	}
	from := len(s.items)
	b := behind{s, now.by, map[node]node{nothing: nothing}}
	y := s.settled(b.left(x), from)
	s.steps[now] = y
	return y
}

// along returns the derivative of a normal form by a list of trees, or nothing if one on the way to it is too large.
func (s *shop) along(x node, l []letter) node {
	for _, by := range l {
		x = s.next(x, by)
	}
	return x
}
