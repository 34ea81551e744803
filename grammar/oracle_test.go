package grammar_test

import (
	"strings"

	"withy/api"
	"withy/guard"
)

// item is a tree that is made: its text, how many trees it has, and its head and kids.
type item struct {
	text string
	size int
	tree api.Tree
}

// made is a forest that is made.
type made []item

func (f made) key() string {
	var l []string
	for _, x := range f {
		l = append(l, x.text)
	}
	return strings.Join(l, " ")
}

func (f made) size() int {
	size := 0
	for _, x := range f {
		size += x.size
	}
	return size
}

func (f made) forest() []api.Tree {
	var l []api.Tree
	for _, x := range f {
		l = append(l, x.tree)
	}
	return l
}

// language is a set of forests, by their texts.
type language map[string]made

func (l language) add(f made) { l[f.key()] = f }

// world makes all forests of some heads that are of the definitions of a grammar.
type world struct {
	g     api.Grammar
	heads []api.Head
	known map[[2]int]language
}

func newWorld(g api.Grammar) world {
	return world{g, []api.Head{{Label: "a"}, {Label: "b"}, {Kind: api.Number, Num: api.Num{N: 7, D: 1}}}, map[[2]int]language{}}
}

// of returns the forests of a definition that have at most so many trees.
func (w world) of(def, most int) language {
	key := [2]int{def, most}
	if w.known[key] == nil {
		w.known[key] = w.has(w.g.Defs[def].Body, most)
	}
	return w.known[key]
}

// all returns all forests that have at most so many trees: an empty one, or one of these and a tree behind it.
func (w world) all(most int) language {
	key := [2]int{-1, most}
	if w.known[key] == nil {
		l := language{}
		l.add(nil)
		if most > 0 {
			for _, f := range chained(w.all(most-1), w.trees(api.Guard{}, w.all(most-1)), most) {
				l.add(f)
			}
		}
		w.known[key] = l
	}
	return w.known[key]
}

// trees returns the forests of one tree whose head a guard accepts, and whose kids are of a set.
func (w world) trees(g api.Guard, kids language) language {
	l := language{}
	for _, h := range w.heads {
		if is, _ := guard.Holds(g, h); !is {
			continue
		}
		for text, k := range kids {
			t := api.Tree{Head: h, Kids: k.forest()}
			switch {
			case h.Kind != api.Elem && text != "":
				continue
			case h.Kind != api.Elem:
				l.add(made{{"7", 1, t}})
			case text == "":
				l.add(made{{h.Label, 1, t}})
			default:
				l.add(made{{h.Label + "{" + text + "}", 1 + k.size(), t}})
			}
		}
	}
	return l
}

// has returns the forests of an expression that have at most so many trees.
func (w world) has(r api.Re, most int) language {
	l := language{}
	var subs []language
	for _, sub := range r.Subs {
		subs = append(subs, w.has(sub, most))
	}
	switch r.Op {
	case api.REps:
		l.add(nil)
	case api.RTree:
		if most > 0 {
			return w.trees(r.Guard, w.of(r.Def, most-1))
		}
	case api.RSeq:
		return chained(subs[0], subs[1], most)
	case api.RAlt:
		for _, sub := range subs {
			for _, f := range sub {
				l.add(f)
			}
		}
	case api.RStar:
		l.add(nil)
		return closed(l, subs[0], most)
	case api.RAnd, api.RNot:
		for key, f := range w.all(most) {
			is := has(subs[0], key)
			if r.Op == api.RNot && !is || r.Op == api.RAnd && is && has(subs[1], key) {
				l.add(f)
			}
		}
	case api.RMix:
		for _, a := range subs[0] {
			for _, b := range subs[1] {
				if a.size()+b.size() <= most {
					for _, f := range mixed(a, b) {
						l.add(f)
					}
				}
			}
		}
	case api.RRef:
		return w.of(r.Def, most)
	}
	return l
}

func has(l language, key string) bool {
	_, is := l[key]
	return is
}

func chained(a, b language, most int) language {
	l := language{}
	for _, x := range a {
		for _, y := range b {
			if x.size()+y.size() <= most {
				l.add(append(x[:len(x):len(x)], y...))
			}
		}
	}
	return l
}

// closed puts forests of a set behind those that are there, until nothing new comes.
func closed(l, more language, most int) language {
	for count := -1; count < len(l); {
		count = len(l)
		for _, f := range chained(l, more, most) {
			l.add(f)
		}
	}
	return l
}

// mixed returns all forests that have the trees of both, each in their order.
func mixed(a, b made) []made {
	if len(a) == 0 {
		return []made{b}
	}
	if len(b) == 0 {
		return []made{a}
	}
	var l []made
	for _, f := range mixed(a[1:], b) {
		l = append(l, append(made{a[0]}, f...))
	}
	for _, f := range mixed(a, b[1:]) {
		l = append(l, append(made{b[0]}, f...))
	}
	return l
}

// looker looks up whether pieces of one list are of expressions, as the chapter says what they have.
type looker struct {
	g     api.Grammar
	list  []api.Tree
	known map[piece]bool
}

type piece struct{ expr, from, to int }

// isOf tells whether a forest is of a definition, without mixes.
func isOf(g api.Grammar, def int, f []api.Tree) bool {
	l := looker{g, f, map[piece]bool{}}
	return l.has(g.Defs[def].Body, def*1000, 0, len(f))
}

// has looks at the trees from a place to another one; id tells the expression from all others.
func (l looker) has(r api.Re, id, from, to int) bool {
	key := piece{id, from, to}
	if is, known := l.known[key]; known {
		return is
	}
	second := 0
	if len(r.Subs) > 1 {
		second = id + 1 + len(flat(r.Subs[0]))
	}
	is := false
	switch r.Op {
	case api.REps:
		is = from == to
	case api.RTree:
		if to-from == 1 {
			accepts, _ := guard.Holds(r.Guard, l.list[from].Head)
			is = accepts && isOf(l.g, r.Def, l.list[from].Kids)
		}
	case api.RSeq:
		for cut := from; cut <= to && !is; cut++ {
			is = l.has(r.Subs[0], id+1, from, cut) && l.has(r.Subs[1], second, cut, to)
		}
	case api.RStar:
		is = from == to
		for cut := from + 1; cut <= to && !is; cut++ {
			is = l.has(r.Subs[0], id+1, from, cut) && l.has(r, id, cut, to)
		}
	case api.RAlt:
		is = l.has(r.Subs[0], id+1, from, to) || l.has(r.Subs[1], second, from, to)
	case api.RAnd:
		is = l.has(r.Subs[0], id+1, from, to) && l.has(r.Subs[1], second, from, to)
	case api.RNot:
		is = !l.has(r.Subs[0], id+1, from, to)
	case api.RRef:
		is = l.has(l.g.Defs[r.Def].Body, r.Def*1000, from, to)
	}
	l.known[key] = is
	return is
}
