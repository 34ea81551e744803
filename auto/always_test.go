package auto_test

import (
	"reflect"
	"slices"
	"sync"
	"testing"

	"withy/api"
	"withy/auto"
)

// arguments are what the functions of the chapter can be called with.
type arguments struct {
	a, b       api.Auto
	f          []api.Tree
	m          api.Mix
	i, k, size int
}

// results is what the functions return for some arguments, and whether what comes with errors, or is not found, are zero values.
func results(x arguments) (r []any, zero bool) {
	zero = true
	add := func(x any, found bool, e api.Errno) {
		v := reflect.ValueOf(x)
		zero = zero && (e == api.OK && found || v.IsZero() || v.Kind() == reflect.Slice && v.Len() == 0)
		r = append(r, x, found, e)
	}
	r = append(r, auto.Check(x.a))
	state, e := auto.Run(x.a, x.f)
	add(state, true, e)
	of, e := auto.Is(x.a, x.f, x.i)
	add(of, true, e)
	least, e := auto.Least(x.a)
	add(least, true, e)
	for _, w := range least {
		zero = zero && (w.Found || w.Forest == nil)
	}
	some, e := auto.Some(x.a, x.i)
	add(some, some.Found, e)
	trimmed, e := auto.Trim(x.a)
	add(trimmed, true, e)
	minimal, e := auto.Min(x.a)
	add(minimal, true, e)
	joined, e := auto.Join(x.a, x.b)
	add(joined, true, e)
	mixed, e := auto.Mean(x.a, x.m)
	add(mixed, true, e)
	f, is, e := auto.Equal(x.a, x.i, x.b, x.k)
	add(f, !is, e)
	add(is, true, e)
	count, e := auto.Count(x.a, x.i, x.size)
	add(count, true, e)
	l, e := auto.List(x.a, x.i, x.size)
	add(l, true, e)
	return r, zero
}

// anyArguments are of all sorts; many of them have errors.
func anyArguments() []arguments {
	loop := must("a")
	loop[0].Kids = loop
	forests := [][]api.Tree{nil, must("a a"), must(`b{7 "x"} a(k="v")`), loop, {{Head: api.Head{Kind: 9}}}, slices.Repeat(must("a"), 401), must("7")}
	forests[6][0].Kids = must("a")
	numbers := []int{0, 1, -1, 2, 1 << 62, -1 << 63, 8, 9}
	mixes := []api.Mix{is(0), endless(), not(is(1)), {Op: 9}, {Op: -1 << 63}, mix(api.MixAnd, is(0), not(is(0))), {Subs: make([]api.Mix, 100000)}}
	automata := append(rightAutomata(), sized(0, 1, 3, 7, 15, 31, 63, 127, 255, 511), unreached())
	for _, x := range wrongAutomata() {
		automata = append(automata, x.a)
	}
	for seed := range uint64(20) {
		automata = append(automata, newMaker(seed).any(5))
	}
	var l []arguments
	for i, a := range automata {
		for k := range 5 {
			at := i*5 + k
			l = append(l, arguments{a, automata[at*7%len(automata)], forests[at%len(forests)], mixes[at%len(mixes)], numbers[at%4], numbers[at/2%len(numbers)], numbers[at/3%len(numbers)]})
		}
	}
	return l
}

// P0.1 and R8: each function returns, whatever it is called with, and the same again, from all goroutines. P0.2 and R2: with an error all else is a zero value.
func TestAlways(t *testing.T) {
	var group sync.WaitGroup
	for i, x := range anyArguments() {
		group.Go(func() {
			first, zero := results(x)
			second, _ := results(x)
			if !reflect.DeepEqual(first, second) {
				t.Errorf("arguments %d: not the same again", i)
			}
			if !zero {
				t.Errorf("arguments %d: not zero with an error", i)
			}
		})
	}
	group.Wait()
	m := newMaker(77)
	x := arguments{m.any(9), m.any(4), m.random(12), is(0), 0, 0, 2}
	want, _ := results(x)
	for range 50 {
		group.Go(func() {
			if got, _ := results(x); !reflect.DeepEqual(got, want) {
				t.Errorf("not the same: %v", got)
			}
		})
	}
	group.Wait()
}

// P0.1: the largest automata take no time to speak of.
func TestLarge(t *testing.T) {
	m := newMaker(5)
	a := m.automaton(finest(), 40, 6)
	b := m.split(m.automaton(finest(), 3, 6), 37)
	first, zero := results(arguments{a, b, m.random(400), is(5), 0, 5, 8})
	same(t, zero, true, "zero with an error")
	same(t, len(first) > 0, true, "results")
	results(arguments{b, a, m.random(400), nots(23, is(5)), 0, 5, 1})
	least, e := auto.Min(b)
	same(t, e, api.OK, "Min of a large one")
	same(t, len(least.Next) < 4, true, "its states", len(least.Next))
}

// filled puts empty lists in the place of those that are nil.
func filled(l []api.Guard) []api.Guard {
	all := []api.Guard{}
	for _, g := range l {
		g.Subs = filled(g.Subs)
		all = append(all, g)
	}
	return all
}

// R3: nil is as good as empty.
func TestNil(t *testing.T) {
	for seed := range uint64(60) {
		m := newMaker(seed)
		a, b := m.any(4), m.any(4)
		if seed%4 == 0 {
			for s := range a.Yes {
				a.Yes[s] = nil
			}
		}
		bare := arguments{a: a, b: b, m: is(0), size: 2}
		empty := arguments{a: clone(a), b: clone(b), f: []api.Tree{}, m: api.Mix{Subs: []api.Mix{}}, size: 2}
		empty.a.Guards, empty.b.Guards = filled(a.Guards), filled(b.Guards)
		for s, yes := range empty.a.Yes {
			empty.a.Yes[s] = append([]bool{}, yes...)
		}
		one, _ := results(bare)
		two, _ := results(empty)
		for i := range one {
			same(t, plain(two[i]), plain(one[i]), "result", i, a, b)
		}
	}
	j, e := auto.Join(blank(guards("<>", "a", "!a"), 1), blank(filled(guards("<>", "a", "!a")), 1))
	same(t, told(plain(j.Guards), e), plain(guards("<>", "a", "!a")), "guards that are the same but for empty lists")
	j, e = auto.Join(blank(filled(guards("<>", "a", "!a")), 1), blank(guards("<>", "a", "!a"), 1))
	same(t, told(plain(j.Guards), e), plain(guards("<>", "a", "!a")), "guards that are the same but for empty lists")
}

// memory adds the addresses of the elements of all slices in a value, those that are there beyond their ends included; what is there twice is counted in `twice`.
func memory(x reflect.Value, found map[any]bool, twice *int) {
	switch x.Kind() {
	case reflect.Struct:
		for i := range x.NumField() {
			memory(x.Field(i), found, twice)
		}
	case reflect.Slice:
		whole := x.Slice3(0, x.Cap(), x.Cap())
		for i := range whole.Len() {
			at := whole.Index(i).Addr().Interface()
			if found[at] {
				*twice++
			}
			found[at] = true
		}
		for i := range x.Len() {
			memory(x.Index(i), found, twice)
		}
	}
}

// P0.3 and R4: no argument changes, no result shares memory with one, and no two slices of a result share any.
func TestMemory(t *testing.T) {
	for seed := range uint64(60) {
		m := newMaker(seed)
		a, b := m.any(5), m.any(5)
		a.Guards = append(make([]api.Guard, 0, 20), a.Guards...)
		a.Guards = append(a.Guards, guards(`!(b|@k="1")`, `!(b|@k="2")`)...)
		a = m.automaton(a.Guards, len(a.Next), len(a.Yes[0]))
		// the same memory more than once, and lists that are longer than they seem
		a.Next[len(a.Next)-1] = a.Next[0]
		a.Yes[len(a.Yes)-1] = a.Yes[0]
		for s, yes := range b.Yes {
			b.Yes[s] = append(make([]bool, 0, 20), yes...)
		}
		sub := []api.Mix{is(0), not(is(0))}
		x := arguments{a, b, append(make([]api.Tree, 0, 30), m.random(9)...), mix(api.MixOr, mix(api.MixAnd, sub...), not(mix(api.MixOr, sub...))), 0, 0, 2}
		spare := []any{x, a.Guards[:cap(a.Guards)], x.f[:cap(x.f)], b.Yes[0][:cap(b.Yes[0])]}
		before := plain(spare)
		others := map[any]bool{}
		for _, y := range []any{x.a, x.b, x.f, x.m} {
			memory(reflect.ValueOf(y), others, new(int))
		}
		r, _ := results(x)
		for i, y := range r {
			own, twice := map[any]bool{}, 0
			memory(reflect.ValueOf(y), own, &twice)
			same(t, twice, 0, "a result shares memory with itself", seed, i)
			for address := range own {
				same(t, others[address], false, "a result shares memory with an argument, or another result", seed, i)
				others[address] = true
			}
		}
		same(t, plain(spare), before, "an argument was changed", seed)
	}
}
