package grammar_test

import (
	"fmt"
	"reflect"
	"strings"
	"sync"
	"testing"

	"withy/api"
	"withy/grammar"
	"withy/tree"
)

// arguments are what the functions of the chapter can be called with.
type arguments struct {
	g, h api.Grammar
	def  int
	defs []int
	r    api.Re
	f    []api.Tree
	s    string
}

// results is what the functions return for some arguments, and whether what comes with errors are zero values.
func results(x arguments) (r []any, zero bool) {
	zero = true
	add := func(x any, e api.Errno) {
		zero = zero && (e == api.OK || reflect.ValueOf(x).IsZero())
		r = append(r, x, e)
	}
	r = append(r, grammar.Check(x.g))
	size, e := grammar.Size(x.g)
	add(size, e)
	def, e := grammar.Find(x.g, x.s)
	add(def, e)
	guards, e := grammar.Guards(x.g)
	add(guards, e)
	is, e := grammar.In(x.g, x.def, x.f)
	add(is, e)
	all, e := grammar.All(x.g, x.f)
	add(all, e)
	nulls, e := grammar.Null(x.g)
	add(nulls, e)
	uses, e := grammar.Uses(x.g, x.def)
	add(uses, e)
	reach, e := grammar.Reach(x.g, x.def)
	add(reach, e)
	loops, e := grammar.Loops(x.g, x.def)
	add(loops, e)
	stars, e := grammar.Stars(x.g, x.def)
	add(stars, e)
	labels, e := grammar.Labels(x.g, x.def)
	add(labels, e)
	opened, e := grammar.Open(x.g, x.def)
	add(opened, e)
	trimmed, now, e := grammar.Trim(x.g, x.defs)
	add(trimmed, e)
	add(now, e)
	joined, e := grammar.Join(x.g, x.h)
	add(joined, e)
	put, e := grammar.Put(x.g, x.def, x.r)
	add(put, e)
	renamed, e := grammar.Rename(x.g, x.def, x.s)
	add(renamed, e)
	simple, e := grammar.Simple(x.g)
	add(simple, e)
	turned, e := grammar.Turn(x.g)
	add(turned, e)
	text, e := grammar.Print(x.g)
	add(text, e)
	parsed, e := grammar.Parse(x.s)
	add(parsed, e)
	return r, zero
}

// anyArguments are of all sorts; most of them have errors.
func anyArguments() []arguments {
	loop := []api.Tree{elem("a")}
	loop[0].Kids = loop
	forests := [][]api.Tree{nil, row("a", 3), row("b", api.MaxTrees+1), loop, chain(41), {{Head: api.Head{Kind: 9}}}, row("a", 13), {elem("A")}, {elem("a", elem("b"))}}
	numbers := []int{0, 1, -1, 2, 1 << 62, -1 << 63}
	texts := []string{"", "a", "abcdefghi", exampleText, "a:~\n", "\xff\x00", "a:(", strings.Repeat("a:[", 5000), "zz"}
	bodies := []api.Re{none(), endless(), ref(0), ref(9), re(-1), one(endlessGuard(), 0), star(star(one(label("a"), 0))), {Subs: make([]api.Re, 100000)}}
	grammars := rightGrammars()
	for _, x := range wrongGrammars() {
		grammars = append(grammars, x.g)
	}
	var l []arguments
	for i, g := range grammars {
		for k := range 6 {
			at := i + k
			l = append(l, arguments{g, grammars[at*7%len(grammars)], numbers[at%len(numbers)], numbers[:at%len(numbers)], bodies[at%len(bodies)], forests[at%len(forests)], texts[at%len(texts)]})
		}
	}
	return l
}

// P0.1 and R8: each function returns, whatever it is called with, and the same again, from all goroutines. P0.2 and R2: with an error all else is a zero value.
func TestAlways(t *testing.T) {
	var group sync.WaitGroup
	for i, x := range anyArguments() {
		group.Go(func() {
			first, zero := results(x)
			second, _ := results(x)
			if !reflect.DeepEqual(first, second) {
				t.Errorf("arguments %d: not the same again", i)
			}
			if !zero {
				t.Errorf("arguments %d: not zero with an error", i)
			}
		})
	}
	group.Wait()
	m := newMaker(77, allSorts)
	g := m.grammar(6, 9)
	x := arguments{g, must(t, "x:.\n"), 0, []int{0}, eps(), m.forest(12), "zz"}
	want, _ := results(x)
	for range 50 {
		group.Go(func() {
			if got, _ := results(x); !reflect.DeepEqual(got, want) {
				t.Errorf("not the same: %v", got)
			}
		})
	}
	group.Wait()
}

// filled puts empty lists in the place of those that are nil.
func filled(r api.Re) api.Re {
	subs := []api.Re{}
	for _, sub := range r.Subs {
		subs = append(subs, filled(sub))
	}
	r.Subs = subs
	r.Guard = filledGuard(r.Guard)
	return r
}

func filledGuard(g api.Guard) api.Guard {
	subs := []api.Guard{}
	for _, sub := range g.Subs {
		subs = append(subs, filledGuard(sub))
	}
	g.Subs = subs
	return g
}

// R3: nil is as good as empty.
func TestNil(t *testing.T) {
	for seed := range uint64(60) {
		m := newMaker(seed, allSorts)
		g := m.grammar(4, 9)
		bare := arguments{g, must(t, "x:([!(a|b)]x|.)\n"), 0, nil, seq(one(notGuard(label("a")), 0), eps()), nil, ""}
		empty := arguments{defs(), defs(), 0, []int{}, filled(bare.r), []api.Tree{}, ""}
		for _, d := range g.Defs {
			empty.g.Defs = append(empty.g.Defs, def(d.Name, filled(d.Body)))
		}
		for _, d := range bare.h.Defs {
			empty.h.Defs = append(empty.h.Defs, def(d.Name, filled(d.Body)))
		}
		a, _ := results(bare)
		b, _ := results(empty)
		for i := range a {
			same(t, plain(b[i]), plain(a[i]), "result", grammarText(g), i)
		}
	}
	twice := named(alt(one(notGuard(label("a")), 0), filled(one(notGuard(label("a")), 0))))
	simple, e := grammar.Simple(twice)
	same(t, told(simple, e), "d0:[!a]d0\n", "what is the same but for empty lists")
	l, e := grammar.Guards(twice)
	same(t, fmt.Sprint(len(l), e), "2 0", "guards that are the same but for empty lists")
}

// memory adds the addresses of the elements of all slices in a value, those that are there beyond their ends included; what is there twice is counted in `twice`.
func memory(x reflect.Value, found map[any]bool, twice *int) {
	switch x.Kind() {
	case reflect.Struct:
		for i := range x.NumField() {
			memory(x.Field(i), found, twice)
		}
	case reflect.Slice:
		whole := x.Slice3(0, x.Cap(), x.Cap())
		for i := range whole.Len() {
			at := whole.Index(i).Addr().Interface()
			if found[at] {
				*twice++
			}
			found[at] = true
		}
		for i := range x.Len() {
			memory(x.Index(i), found, twice)
		}
	}
}

// P0.3 and R4: no argument changes, no result shares memory with one, and no two slices of a result share any.
func TestMemory(t *testing.T) {
	shared := []api.Re{one(api.Guard{Op: api.GOr, Subs: []api.Guard{label("a"), label("b")}}, 0), eps()}
	for seed := range uint64(60) {
		m := newMaker(seed, allSorts)
		g := m.grammar(4, 9)
		// the same memory more than once, and lists that are longer than they seem
		again := alt(seq(shared[0], shared[1]), and(api.Re{Op: api.RSeq, Subs: shared}, not(not(api.Re{Op: api.RSeq, Subs: shared}))))
		g.Defs = append(make([]api.Def, 0, 20), g.Defs...)
		g.Defs = append(g.Defs, def("again", again), def("once", alt(ref(len(g.Defs)), mix(ref(len(g.Defs)), none()))))
		x := arguments{g, named(star(api.Re{Op: api.RSeq, Subs: shared})), len(g.Defs) - 1, append(make([]int, 0, 5), len(g.Defs)-1), api.Re{Op: api.RSeq, Subs: shared}, append(make([]api.Tree, 0, 30), m.forest(9)...), "once"}
		x.h.Defs[0].Name = "other"
		if seed%2 == 0 {
			x.s = exampleText
		}
		before := plain([]any{x, shared, g.Defs[:cap(g.Defs)]})
		others := map[any]bool{}
		for _, a := range []any{x.g, x.h, x.defs, x.r, x.f} {
			memory(reflect.ValueOf(a), others, new(int))
		}
		r, _ := results(x)
		for i, a := range r {
			own, twice := map[any]bool{}, 0
			memory(reflect.ValueOf(a), own, &twice)
			same(t, twice, 0, "a result shares memory with itself", seed, i)
			for address := range own {
				same(t, others[address], false, "a result shares memory with an argument", seed, i)
				others[address] = true // and none with an earlier result
			}
		}
		same(t, plain([]any{x, shared, g.Defs[:cap(g.Defs)]}), before, "an argument was changed", seed)
		same(t, tree.Check(x.f), api.OK, "the forest", seed)
		same(t, grammar.Check(g), api.OK, "the grammar", seed)
	}
}
