package event_test

import (
	"fmt"
	"reflect"
	"slices"
	"strings"
	"sync"
	"testing"

	"withy/api"
	"withy/event"
	"withy/tree"
)

// results is what the functions of the chapter return for some arguments, and whether what comes with errors are zero values.
func results(l []api.Event, f []api.Tree, at int, b []byte) (r []any, zero bool) {
	zero = true
	add := func(x any, e api.Errno) {
		zero = zero && (e == api.OK || reflect.ValueOf(x).IsZero())
		r = append(r, x, e)
	}
	r = append(r, event.Begins(l), event.Check(l))
	events, e := event.Of(f)
	add(events, e)
	trees, e := event.Trees(l)
	add(trees, e)
	heads, e := event.Open(l)
	add(heads, e)
	end, e := event.Closing(l)
	add(end, e)
	match, e := event.Match(l, at)
	add(match, e)
	path, e := event.Path(l, at)
	add(path, e)
	written, e := event.Text(l)
	add(written, e)
	bytes, e := event.Encode(f)
	add(bytes, e)
	decoded, e := event.Decode(b)
	add(decoded, e)
	reader := event.New()
	first, e := reader.Feed(b[:len(b)/2])
	add(first, e)
	r = append(r, reader.Taken(), reader.Deep())
	second, e := reader.Feed(b[len(b)/2:])
	add(second, e)
	r = append(r, reader.Taken(), reader.Deep())
	last, e := reader.Done()
	add(last, e)
	return append(r, reader.Taken(), reader.Deep()), zero
}

// anyEvents are events of all sorts, most of which have errors.
func anyEvents() [][]api.Event {
	l := unended()
	for _, x := range wrongBeginnings() {
		l = append(l, x.l)
	}
	for _, f := range [][]api.Tree{nil, example(), row(api.MaxTrees), chain(api.MaxDeep), chain(3, row(5)...)} {
		l = append(l, mustOf(f))
	}
	return append(l, []api.Event{}, make([]api.Event, 5), slices.Repeat([]api.Event{shut()}, 100000))
}

// P0.1 and R8: each function returns, whatever it is called with, and the same again, from all goroutines. P0.2 and R2: with an error all else is a zero value.
func TestAlways(t *testing.T) {
	forests := [][]api.Tree{nil, example(), row(api.MaxTrees + 1), chain(api.MaxDeep + 1), endless(), {{}}, {{Head: api.Head{Kind: 9}}}, {elem("A")}, chain(4, row(9)...)}
	strings := [][]byte{nil, []byte("a"), []byte("abcdefghi"), []byte(`a{b(x="1") 7} "x"`), []byte("\xff\x00"), []byte("a{"), {1, 0, 1, 97, 0, 2}, {4, 0, 1, 97, 4, 1}, {3, 255, 255, 255, 255, 255, 255}, make([]byte, 30000), []byte(strings.Repeat("a", 30000)), slices.Repeat([]byte{2}, 20000)}
	at := []int{0, 1, -1, 5, 1 << 62, -1 << 63}
	var group sync.WaitGroup
	for i, l := range anyEvents() {
		group.Go(func() {
			for k := range at {
				f, b := forests[(i+k)%len(forests)], strings[(i*5+k)%len(strings)]
				first, zero := results(l, f, at[k], b)
				second, _ := results(l, f, at[k], b)
				if !reflect.DeepEqual(first, second) {
					t.Errorf("events %d: not the same again", i)
				}
				if !zero {
					t.Errorf("events %d: not zero with an error", i)
				}
			}
		})
	}
	group.Wait()
	want, _ := results(mustOf(example()), example(), 2, []byte(exampleText))
	for range 50 {
		group.Go(func() {
			if got, _ := results(mustOf(example()), example(), 2, []byte(exampleText)); !reflect.DeepEqual(got, want) {
				t.Errorf("not the same: %v", got)
			}
		})
	}
	group.Wait()
}

// R3: nil is as good as empty.
func TestNil(t *testing.T) {
	bare, empty := elem("a", number(7, 1)), elem("a", number(7, 1))
	empty.Attrs, empty.Kids[0].Attrs, empty.Kids[0].Kids = []api.Attr{}, []api.Attr{}, []api.Tree{}
	l, k := mustOf([]api.Tree{bare}), mustOf([]api.Tree{empty})
	for i := range k {
		k[i].Head.Attrs = []api.Attr{}
	}
	for i, x := range []struct {
		l, k []api.Event
		f, g []api.Tree
		b, c []byte
	}{{nil, []api.Event{}, nil, []api.Tree{}, nil, []byte{}}, {l, k, []api.Tree{bare}, []api.Tree{empty}, []byte("a"), []byte("a")}} {
		for at := range 3 {
			a, _ := results(x.l, x.f, at, x.b)
			b, _ := results(x.k, x.g, at, x.c)
			for j := range a {
				same(t, fmt.Sprint(b[j]), fmt.Sprint(a[j]), "result", i, j)
			}
		}
	}
}

// memory returns the addresses of all elements of slices within a value, those that are there beyond their ends included, and whether some are there twice.
func memory(x any) (found map[any]bool, twice bool) {
	found = map[any]bool{}
	var add func(v reflect.Value)
	add = func(v reflect.Value) {
		switch v.Kind() {
		case reflect.Slice:
			whole := v.Slice(0, v.Cap())
			for i := range whole.Len() {
				address := whole.Index(i).Addr().Interface()
				twice = twice || found[address]
				found[address] = true
			}
			for i := range v.Len() {
				add(v.Index(i))
			}
		case reflect.Struct:
			for i := range v.NumField() {
				add(v.Field(i))
			}
		}
	}
	add(reflect.ValueOf(x))
	return found, twice
}

// P0.3 and R4: no argument changes, no result shares memory with one, and no two slices of a result share any.
func TestMemory(t *testing.T) {
	for i, f := range samples(60) {
		f = append(slices.Clone(f), example()...)
		if tree.Check(f) != api.OK {
			continue
		}
		spare := number(7, 1)
		spare.Attrs, spare.Kids = make([]api.Attr, 0, 2), make([]api.Tree, 0, 2)
		f[len(f)-1] = spare
		l := mustOf(f)
		if i%2 == 0 {
			l = l[:len(l)*2/3]
		}
		for k := range l {
			if l[k].Kind != api.EvOpen {
				l[k].Head.Attrs = make([]api.Attr, 0, 2)
			}
		}
		b := []byte(forestText(f))
		written := bytesOf(f)
		before := fmt.Sprint(l, f, b, written)
		others := map[any]bool{}
		for _, x := range []any{l, f, b, written} {
			found, _ := memory(x)
			for address := range found {
				others[address] = true
			}
		}
		for at := range min(len(l), 12) {
			for j, x := range append(returned(l, f, at, b), returned(l, f, at, written)...) {
				own, twice := memory(x)
				same(t, twice, false, "a result shares memory with itself", i, j)
				for address := range own {
					if others[address] {
						t.Fatalf("result %d shares memory with an argument", j)
					}
				}
			}
		}
		same(t, fmt.Sprint(l, f, b, written), before, "an argument was changed", i)
	}
}

func bytesOf(f []api.Tree) []byte {
	b, _ := event.Encode(f)
	return b
}

// returned are the results that have slices, or texts as bytes.
func returned(l []api.Event, f []api.Tree, at int, b []byte) []any {
	r, _ := results(l, f, at, b)
	return slices.DeleteFunc(r, func(x any) bool { return reflect.TypeOf(x).Kind() != reflect.Slice })
}

// P0.3: what a reader returns is not its own any more, and what it was fed with is not kept.
func TestMemoryOfReaders(t *testing.T) {
	s := `abc(k="v",l="w"){"hi" b(k="v"){3/4}} "some \"text\"" c(x="")`
	want := strings.Join(wanted(must(t, s)), " ")
	for size := range 20 {
		r := event.New()
		var got []string
		all := map[any]bool{}
		for rest := []byte(s); ; {
			piece := slices.Clone(rest[:min(size+1, len(rest))])
			rest = rest[len(piece):]
			l, e := r.Feed(piece)
			if len(piece) == 0 {
				l, e = r.Done()
			}
			same(t, e, api.OK, "Feed or Done", size)
			for _, x := range l {
				got = append(got, told(x))
			}
			own, twice := memory(l)
			same(t, twice, false, "events share memory", size)
			for address := range own {
				same(t, all[address], false, "events share memory with earlier ones", size)
				all[address] = true
			}
			for i := range piece {
				piece[i] = '!'
			}
			for i := range l {
				clear(l[i].Head.Attrs)
				l[i] = api.Event{Kind: 9}
			}
			if len(piece) == 0 {
				break
			}
		}
		same(t, strings.Join(got, " "), want, "what is read", size)
	}
}

// P4.3: readers do not know of each other.
func TestReaders(t *testing.T) {
	texts := []string{exampleText, `b{c "x"} 7`, "abcdefghi ", "a{", `"a" "b" "c"`}
	var readers []*event.Reader
	for range texts {
		readers = append(readers, event.New())
	}
	got := make([][]string, len(texts))
	for i := range 30 {
		for k, s := range texts {
			if i < len(s) {
				l, _ := readers[k].Feed([]byte(s[i : i+1]))
				for _, x := range l {
					got[k] = append(got[k], told(x))
				}
			}
		}
	}
	for k, s := range texts {
		want := readingOf(s)
		same(t, strings.Join(got[k], " "), want.between(0, len(s)), "events", s)
		_, e := readers[k].Done()
		same(t, e, want.e, "Done", s)
	}
}
