package num_test

import (
	"math"
	"reflect"
	"slices"
	"sync"
	"testing"

	"withy/api"
	"withy/num"
)

// results is what the functions of the chapter return for some arguments.
func results(a, b api.Num, k, j int, l []api.Num, terms []int, s string) []any {
	var r []any
	add := func(x any, e api.Errno) {
		if e != api.OK && !reflect.ValueOf(x).IsZero() {
			x = "not zero"
		}
		r = append(r, x, e)
	}
	number := func(x api.Num, e api.Errno) { add(x, e) }
	whole := func(x int, e api.Errno) { add(x, e) }
	text := func(x string, e api.Errno) { add(x, e) }
	r = append(r, num.Check(a))
	number(num.Make(k, j))
	number(num.Neg(a))
	number(num.Add(a, b))
	number(num.Sub(a, b))
	number(num.Mul(a, b))
	number(num.Div(a, b))
	number(num.Sum(l))
	number(num.Pow(a, k))
	whole(num.Cmp(a, b))
	is, e := num.Whole(a)
	add(is, e)
	whole(num.Floor(a))
	whole(num.Ceil(a))
	whole(num.Round(a))
	text(num.Decimal(a, k))
	number(num.Simplest(a, b))
	number(num.Near(a, k))
	list, e := num.Terms(a)
	add(list, e)
	number(num.Of(terms))
	text(num.Print(a))
	number(num.Parse(s))
	return r
}

// odd are numbers of all sorts, most of which are none.
func odd() []api.Num {
	l := large()
	for _, x := range invalid() {
		l = append(l, x.Num)
	}
	for _, k := range []int{math.MinInt, -1, 0, 1, math.MaxInt} {
		for _, d := range []int{math.MinInt, -1, 0, 1, math.MaxInt} {
			l = append(l, n(k, d))
		}
	}
	return l
}

// P0.1 and R8: each function returns, whatever it is called with, and the same again, from all goroutines. P0.2 and R2: with an error all else is a zero value.
func TestAlways(t *testing.T) {
	ints := []int{math.MinInt, -api.MaxWide - 1, -1, 0, 1, 2, 9, 30, 1000, api.MaxNum, api.MaxWide, math.MaxInt}
	texts := []string{"", "-", "1/2", "-0.5", "\xff\x00", "1000000001"}
	l := odd()
	var group sync.WaitGroup
	for i, a := range l {
		group.Go(func() {
			for m, b := range l {
				k, j := ints[(i+m)%len(ints)], ints[(i+5*m)%len(ints)]
				s := texts[(i+m)%len(texts)]
				terms := []int{j, k, 2}
				first := results(a, b, k, j, []api.Num{a, b}, terms, s)
				second := results(a, b, k, j, []api.Num{a, b}, terms, s)
				if !reflect.DeepEqual(first, second) {
					t.Errorf("%v, %v, %d: not the same again", a, b, k)
				}
				if slices.Contains(first, any("not zero")) {
					t.Errorf("%v, %v, %d: not zero with an error: %v", a, b, k, first)
				}
			}
		})
	}
	group.Wait()
	want := results(n(1, 3), n(1, 2), 3, 4, l, []int{2, 3}, "1.25")
	for range 50 {
		group.Go(func() {
			if got := results(n(1, 3), n(1, 2), 3, 4, l, []int{2, 3}, "1.25"); !reflect.DeepEqual(got, want) {
				t.Errorf("not the same: %v", got)
			}
		})
	}
	group.Wait()
}

// P0.2 and R1: the errors of the numbers come first, of the first one, then of the second one; then those of the function.
func TestOrderOfErrors(t *testing.T) {
	good := n(1, 2)
	two := map[string]func(a, b api.Num) api.Errno{
		"Add":      func(a, b api.Num) api.Errno { _, e := num.Add(a, b); return e },
		"Sub":      func(a, b api.Num) api.Errno { _, e := num.Sub(a, b); return e },
		"Mul":      func(a, b api.Num) api.Errno { _, e := num.Mul(a, b); return e },
		"Div":      func(a, b api.Num) api.Errno { _, e := num.Div(a, b); return e },
		"Cmp":      func(a, b api.Num) api.Errno { _, e := num.Cmp(a, b); return e },
		"Simplest": func(a, b api.Num) api.Errno { _, e := num.Simplest(a, b); return e },
		"Sum":      func(a, b api.Num) api.Errno { _, e := num.Sum([]api.Num{a, b}); return e },
	}
	one := map[string]func(a api.Num) api.Errno{
		"Check":   num.Check,
		"Neg":     func(a api.Num) api.Errno { _, e := num.Neg(a); return e },
		"Whole":   func(a api.Num) api.Errno { _, e := num.Whole(a); return e },
		"Floor":   func(a api.Num) api.Errno { _, e := num.Floor(a); return e },
		"Ceil":    func(a api.Num) api.Errno { _, e := num.Ceil(a); return e },
		"Round":   func(a api.Num) api.Errno { _, e := num.Round(a); return e },
		"Terms":   func(a api.Num) api.Errno { _, e := num.Terms(a); return e },
		"Print":   func(a api.Num) api.Errno { _, e := num.Print(a); return e },
		"Pow":     func(a api.Num) api.Errno { _, e := num.Pow(a, -1); return e },
		"Decimal": func(a api.Num) api.Errno { _, e := num.Decimal(a, -1); return e },
		"Near":    func(a api.Num) api.Errno { _, e := num.Near(a, 0); return e },
	}
	for _, x := range invalid() {
		a, want := x.Num, x.e
		for name, f := range one {
			same(t, f(a), want, name, a)
		}
		for name, f := range two {
			same(t, f(a, good), want, name, a, good)
			same(t, f(a, n(0, 1)), want, name, a, "0")
			same(t, f(good, a), want, name, good, a)
			same(t, f(n(0, 2), a), api.ErrForm, name, "0/2", a)
			same(t, f(n(0, 0), a), api.ErrRange, name, "0/0", a)
		}
	}
	_, e := num.Sum([]api.Num{n(most, 1), n(most, 1), n(2, 4), n(1, 0)}) // ErrLimit comes behind those of all numbers
	same(t, e, api.ErrForm, "Sum")
	_, e = num.Div(n(1, most), n(0, 1))
	same(t, e, api.ErrEmpty, "Div")
}

// P0.3, R3 and R4: nil is as good as empty, no argument changes, and no result shares memory.
func TestMemory(t *testing.T) {
	l := []api.Num{n(1, 2), n(1, 3), n(-1, 6)}
	kept := slices.Clone(l)
	num.Sum(l)
	num.Sum(append(l, n(1, 0)))
	if !slices.Equal(l, kept) {
		t.Error("Sum changed its argument", l)
	}
	terms := []int{2, 1, 4, 3}
	num.Of(terms)
	num.Of(terms[:2])
	if !slices.Equal(terms, []int{2, 1, 4, 3}) {
		t.Error("Of changed its argument", terms)
	}
	first, _ := num.Terms(n(45, 16))
	for i := range first {
		first[i] = -7
	}
	first = append(first, 9)
	second, _ := num.Terms(n(45, 16))
	if !slices.Equal(second, terms) || len(first) != 5 {
		t.Error("results of Terms share memory", first, second)
	}
	same(t, result(num.Sum(nil)), result(num.Sum([]api.Num{})), "Sum of nothing")
	same(t, result(num.Of(nil)), result(num.Of([]int{})), "Of nothing")
}
