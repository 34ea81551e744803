package guard_test

import (
	"fmt"
	"reflect"
	"strings"
	"sync"
	"testing"

	"withy/api"
	"withy/guard"
)

// results is what the functions of the chapter return for some arguments, and whether what comes with errors, or is not found, are zero values.
func results(a, b api.Guard, l []api.Guard, h api.Head, region int, s string) (r []any, zero bool) {
	zero = true
	add := func(x any, found bool, e api.Errno) {
		zero = zero && (e == api.OK && found || reflect.ValueOf(x).IsZero())
		r = append(r, x, found, e)
	}
	r = append(r, guard.Check(a), guard.CheckList(l))
	does, e := guard.Holds(a, h)
	add(does, true, e)
	some, can, e := guard.Can(a)
	add(some, can, e)
	zero = zero && (e == api.OK || !can)
	shown, does, e := guard.Entails(a, b)
	add(shown, !does, e)
	zero = zero && (e == api.OK || !does)
	shown, does, e = guard.Same(a, b)
	add(shown, !does, e)
	zero = zero && (e == api.OK || !does)
	all, e := guard.Regions(l)
	add(all, true, e)
	at, e := guard.Which(l, h)
	add(at, true, e)
	cell, e := guard.Cell(l, region)
	add(cell, true, e)
	simple, e := guard.Simple(a)
	add(simple, true, e)
	text, e := guard.Print(a)
	add(text, true, e)
	parsed, e := guard.Parse(s)
	add(parsed, true, e)
	return r, zero
}

// anything are guards of all sorts, most of which have errors.
func anything() []api.Guard {
	l := []api.Guard{{}, label("a"), wide(24), nots(23, has("k"))}
	for o := range api.GOr + 1 {
		l = append(l, proper(o))
	}
	for _, x := range wrongGuards() {
		l = append(l, x.Guard)
	}
	return l
}

func anyHeads() []api.Head {
	return []api.Head{{}, elem("a"), elem("b", api.Attr{Name: "k", Value: "v"}), elem("a", make([]api.Attr, 5)...), number(1, 2), number(2, 4), number(0, 0), text("a"), text("\n"), {Kind: 3}, {Kind: -1}, {Kind: api.Text, Label: "a"}, {Label: strings.Repeat("a", 100000)}}
}

// P0.1 and R8: each function returns, whatever it is called with, and the same again, from all goroutines. P0.2 and R2: with an error all else is a zero value.
func TestAlways(t *testing.T) {
	l, heads := anything(), anyHeads()
	texts := []string{"", "a", "abcdefghi", `(@k="v"|<1/2)`, "\xff\x00", "((", "<"}
	regions := []int{0, 1, -1, 2, 1 << 62, -1 << 63}
	var group sync.WaitGroup
	for i, a := range l {
		group.Go(func() {
			for k, h := range heads {
				b := l[(i*7+k)%len(l)]
				from := (i + k) % len(l)
				list := l[from:min(len(l), from+k)]
				first, zero := results(a, b, list, h, regions[k%len(regions)], texts[k%len(texts)])
				second, _ := results(a, b, list, h, regions[k%len(regions)], texts[k%len(texts)])
				if !reflect.DeepEqual(first, second) {
					t.Errorf("guard %d, head %d: not the same again", i, k)
				}
				if !zero {
					t.Errorf("guard %d, head %d: not zero with an error", i, k)
				}
			}
		})
	}
	group.Wait()
	p := newPool(77)
	a, b, list := p.guard(20), p.guard(20), p.list(8, 6)
	want, _ := results(a, b, list, elem("a"), 1, "(a|b)")
	for range 50 {
		group.Go(func() {
			if got, _ := results(a, b, list, elem("a"), 1, "(a|b)"); !reflect.DeepEqual(got, want) {
				t.Errorf("not the same: %v", got)
			}
		})
	}
	group.Wait()
}

// plain is a result as a text that does not tell nil from empty.
func plain(x any) string {
	return strings.ReplaceAll(fmt.Sprintf("%v", x), "<nil>", "[]")
}

// R3: nil is as good as empty.
func TestNil(t *testing.T) {
	bare, empty := and(label("a"), not(below(1, 2))), and(label("a"), not(below(1, 2)))
	empty.Subs[0].Subs = []api.Guard{}
	empty.Subs[1].Subs[0].Subs = []api.Guard{}
	for _, h := range []api.Head{elem("a"), number(1, 2), text("a")} {
		other := h
		other.Attrs = []api.Attr{}
		a, _ := results(bare, bare, nil, h, 0, "a")
		b, _ := results(empty, empty, []api.Guard{}, other, 0, "a")
		c, _ := results(bare, empty, []api.Guard{bare, bare}, h, 1, "a")
		d, _ := results(empty, bare, []api.Guard{empty, empty}, other, 1, "a")
		for i := range a {
			same(t, plain(b[i]), plain(a[i]), "result", i)
			same(t, plain(d[i]), plain(c[i]), "result", i)
		}
	}
}

// memory adds the addresses of the elements of all slices in a value, those that are there beyond their ends included; what is there twice is counted in `twice`.
func memory(x reflect.Value, found map[any]bool, twice *int) {
	switch x.Kind() {
	case reflect.Struct:
		for i := range x.NumField() {
			memory(x.Field(i), found, twice)
		}
	case reflect.Slice:
		if x.Cap() == 0 {
			return
		}
		whole := x.Slice3(0, x.Cap(), x.Cap())
		for i := range whole.Len() {
			at := whole.Index(i).Addr().Interface()
			if found[at] {
				*twice++
			}
			found[at] = true
		}
		for i := range x.Len() {
			memory(x.Index(i), found, twice)
		}
	}
}

func memoryOf(x any) (found map[any]bool, twice int) {
	found = map[any]bool{}
	memory(reflect.ValueOf(x), found, &twice)
	return found, twice
}

// P0.3 and R4: no argument changes, no result shares memory with one, and no two slices of a result share any.
func TestMemory(t *testing.T) {
	for seed := range uint64(60) {
		p := newPool(seed)
		a, b := p.guard(1+p.r.IntN(12)), p.guard(1+p.r.IntN(12))
		c := p.guard(3)
		l := []api.Guard{p.guard(5), c, c, and(c, c)} // the same memory more than once
		h := elem("a", make([]api.Attr, 0, 3)...)
		h.Attrs = append(h.Attrs, api.Attr{Name: "a"}, api.Attr{Name: "k"})
		before := plain([]any{a, b, l, h})
		others, _ := memoryOf([]any{})
		for _, x := range []any{a, b, l, h} {
			memory(reflect.ValueOf(x), others, new(int))
		}
		all, _ := guard.Regions(l)
		made := []any{all}
		for i := range all {
			cell, _ := guard.Cell(l, i)
			made = append(made, cell)
		}
		for _, g := range []api.Guard{a, b, l[0], l[3], and(a, a), or(c, not(c)), not(not(a)), not(not(c))} {
			simple, _ := guard.Simple(g)
			some, _, _ := guard.Can(g)
			shown, _, _ := guard.Entails(g, b)
			apart, _, _ := guard.Same(a, g)
			made = append(made, simple, some, shown, apart)
		}
		_, _ = guard.Which(l, h)
		_, _ = guard.Holds(a, h)
		_, _ = guard.Print(a)
		for i, x := range made {
			own, twice := memoryOf(x)
			same(t, twice, 0, "a result shares memory with itself", seed, i)
			for address := range own {
				same(t, others[address], false, "a result shares memory with an argument", seed, i)
				others[address] = true // and none with an earlier result
			}
		}
		same(t, plain([]any{a, b, l, h}), before, "an argument was changed", seed)
	}
}
