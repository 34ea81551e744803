package derive_test

import (
	"reflect"
	"slices"
	"sync"
	"testing"

	"withy/api"
	"withy/derive"
	"withy/grammar"
	"withy/guard"
)

// arguments are what the functions of the chapter can be called with.
type arguments struct {
	g    api.Grammar
	r, q api.Re
	f    []api.Tree
	t    api.Tree
}

// results is what the functions return for some arguments, and whether what comes with errors are zero values.
func results(x arguments) (r []any, zero bool) {
	zero = true
	add := func(x any, e api.Errno) {
		v := reflect.ValueOf(x)
		zero = zero && (e == api.OK || v.IsZero() || v.Kind() == reflect.Slice && v.Len() == 0)
		r = append(r, x, e)
	}
	r = append(r, derive.Check(x.g, x.r))
	order, e := derive.Compare(x.g, x.r, x.q)
	add(order, e)
	n, e := derive.Normal(x.g, x.r)
	add(n, e)
	null, e := derive.Null(x.g, x.r)
	add(null, e)
	left, e := derive.Derive(x.g, x.r, x.t)
	add(left, e)
	behind, e := derive.Along(x.g, x.r, x.f)
	add(behind, e)
	is, e := derive.Has(x.g, x.r, x.f)
	add(is, e)
	l, e := derive.List(x.g, x.f)
	add(l, e)
	profile, e := derive.Profile(x.g, x.f)
	add(profile, e)
	a, e := derive.Build(x.g)
	add(a, e)
	return r, zero
}

// anyArguments are of all sorts; most of them have errors.
func anyArguments() []arguments {
	loop := forest("a")
	loop[0].Kids = loop
	forests := [][]api.Tree{nil, forest("a a"), forest(`b{7 "x"} a(k="v")`), loop, {{Head: api.Head{Kind: 9}}}, slices.Repeat(forest("a"), 401), chain(41), slices.Repeat(forest("a b{a 7}"), 100), forest("c{a}")}
	grammars := []api.Grammar{read(exampleText), doubling(), towers(8), towers(9), named(re(api.REps), re(api.REps), wide(fill(16)))}
	for _, x := range wrongGrammars() {
		grammars = append(grammars, x.g)
	}
	for seed := range uint64(30) {
		grammars = append(grammars, newMaker(seed, allOps).grammar(6, 9))
	}
	res := []api.Re{re(api.RNone), ref(0), wide(fill(16)), deep(60)}
	for _, x := range wrongRes() {
		res = append(res, x.r)
	}
	for seed := range uint64(30) {
		res = append(res, newMaker(seed, allOps).expression(20, 1, 1))
	}
	var l []arguments
	for i, g := range grammars {
		for k := range 8 {
			at := i*8 + k
			x := arguments{g, res[at*7%len(res)], res[at%len(res)], forests[at%len(forests)], api.Tree{}}
			if len(x.f) > 0 {
				x.t = x.f[0]
			}
			l = append(l, x)
		}
	}
	return l
}

// P0.1 and R8: each function returns, whatever it is called with, and the same again, from all goroutines. P0.2 and R2: with an error all else is a zero value.
func TestAlways(t *testing.T) {
	var group sync.WaitGroup
	for i, x := range anyArguments() {
		group.Go(func() {
			first, zero := results(x)
			second, _ := results(x)
			if !reflect.DeepEqual(first, second) {
				t.Errorf("arguments %d: not the same again", i)
			}
			if !zero {
				t.Errorf("arguments %d: not zero with an error", i)
			}
		})
	}
	group.Wait()
	m := newMaker(77, plainOps)
	x := arguments{read(exampleText), m.expression(20, 4, 4), m.expression(9, 4, 4), m.forest(12), forest("a{a b}")[0]}
	want, _ := results(x)
	for range 50 {
		group.Go(func() {
			if got, _ := results(x); !reflect.DeepEqual(got, want) {
				t.Errorf("not the same: %v", got)
			}
		})
	}
	group.Wait()
}

// filled puts empty lists in the place of those that are nil.
func filled(r api.Re) api.Re {
	subs := []api.Re{}
	for _, sub := range r.Subs {
		subs = append(subs, filled(sub))
	}
	r.Subs = subs
	r.Guard = filledGuard(r.Guard)
	return r
}

func filledGuard(g api.Guard) api.Guard {
	subs := []api.Guard{}
	for _, sub := range g.Subs {
		subs = append(subs, filledGuard(sub))
	}
	g.Subs = subs
	return g
}

// R3: nil is as good as empty.
func TestNil(t *testing.T) {
	for seed := range uint64(60) {
		m := newMaker(seed, allOps)
		g := m.grammar(4, 9)
		bare := arguments{g: g, r: m.expression(9, len(g.Defs), len(g.Defs)), q: ref(0)}
		empty := arguments{g: api.Grammar{}, r: filled(bare.r), q: filled(bare.q), f: []api.Tree{}}
		empty.t.Attrs, empty.t.Kids = []api.Attr{}, []api.Tree{}
		for _, d := range g.Defs {
			empty.g.Defs = append(empty.g.Defs, api.Def{Name: d.Name, Body: filled(d.Body)})
		}
		one, _ := results(bare)
		two, _ := results(empty)
		for i := range one {
			same(t, plain(two[i]), plain(one[i]), "result", i, grammarText(g))
		}
	}
	g := read(exampleText)
	r := in(g, "[!(a|b)]none")
	c, e := derive.Compare(g, r, filled(r))
	same(t, e, api.OK, "Compare")
	same(t, c, 0, "what is the same but for empty lists")
	same(t, normal(g, re(api.RAlt, r, filled(r))), "[!(a|b)]none", "once")
}

// memory adds the addresses of the elements of all slices in a value, those that are there beyond their ends included; what is there twice is counted in `twice`.
func memory(x reflect.Value, found map[any]bool, twice *int) {
	switch x.Kind() {
	case reflect.Struct:
		for i := range x.NumField() {
			memory(x.Field(i), found, twice)
		}
	case reflect.Slice:
		whole := x.Slice3(0, x.Cap(), x.Cap())
		for i := range whole.Len() {
			at := whole.Index(i).Addr().Interface()
			if found[at] {
				*twice++
			}
			found[at] = true
		}
		for i := range x.Len() {
			memory(x.Index(i), found, twice)
		}
	}
}

// P0.3 and R4: no argument changes, no result shares memory with one, and no two slices of a result share any.
func TestMemory(t *testing.T) {
	not, _ := guard.Parse("!(a|b)")
	shared := []api.Re{{Op: api.RTree, Guard: not}, re(api.REps)}
	for seed := range uint64(60) {
		m := newMaker(seed, plainOps)
		g := m.grammar(4, 9)
		// the same memory more than once, and lists that are longer than they seem
		again := re(api.RAlt, re(api.RSeq, shared...), re(api.RAnd, re(api.RStar, shared[0]), re(api.RNot, re(api.RSeq, shared...))))
		g.Defs = append(make([]api.Def, 0, 20), g.Defs...)
		g.Defs = append(g.Defs, api.Def{Name: "again", Body: again})
		r := re(api.RSeq, re(api.RStar, again), re(api.RMix, shared[0], shared[0]))
		x := arguments{g, r, again, append(make([]api.Tree, 0, 30), m.forest(9)...), forest("c")[0]}
		same(t, grammar.Check(g), api.OK, "the grammar", seed)
		spare := []any{x, shared, g.Defs[:cap(g.Defs)], x.f[:cap(x.f)]}
		before := plain(spare)
		others := map[any]bool{}
		for _, a := range []any{x.g, x.r, x.q, x.f, x.t} {
			memory(reflect.ValueOf(a), others, new(int))
		}
		l, zero := results(x)
		same(t, zero, true, "zero with an error", seed)
		for i, a := range l {
			own, twice := map[any]bool{}, 0
			memory(reflect.ValueOf(a), own, &twice)
			same(t, twice, 0, "a result shares memory with itself", seed, i)
			for address := range own {
				same(t, others[address], false, "a result shares memory with an argument, or another result", seed, i)
				others[address] = true
			}
		}
		same(t, plain(spare), before, "an argument was changed", seed)
	}
}
