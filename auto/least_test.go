package auto_test

import (
	"fmt"
	"slices"
	"strings"
	"testing"

	"withy/api"
	"withy/auto"
	"withy/tree"
)

// unreached has a state 1 that only numbers with kids lead to.
func unreached() api.Auto {
	a := blank(guards("<>"), 3)
	a.Next[0] = [][]int{{2, 1, 1}, {0, 0, 2}}
	a.Yes = [][]bool{bools("010"), bools("100"), bools("001")}
	return a
}

// P7.2: Least and Some of the chapter's example, and others.
func TestLeastExamples(t *testing.T) {
	chain := strings.Repeat("1 ", 40)
	for i, x := range []struct {
		a    api.Auto
		want string
		some string // of each definition
	}{
		{onlyA(), "[] [a] [b]", "[]"}, {unreached(), "[] none [0]", "none [] [0]"}, {modulo(1), "[]", "[]"}, {modulo(3), "[] [a] [a a]", "[] [a] [a a]"},
		{sized(0, 1, 2, 4, 9), "[] [a] [a{a}] [a a{a{a}}] [a a{a{a}} a{a a{a{a}}}] [0]", "[]"}, {blank(guards("<>"), 2), "[] none", ""},
		{automaton(guards("<>", "#", "<0", `"x"`), nil, "01", "10"), "[] [a]", "[a] []"}, {automaton(guards("<>", "a", "b", "c"), nil, "0", "1"), "[] [a]", "[a]"},
		{automaton(guards("<>"), map[step]int{{0, 1, 0}: 0, {0, 1, 1}: 0}, "0", "1"), "[] [0]", "[0]"}, {automaton(guards("<>"), map[step]int{{0, 1, 0}: 0, {0, 0, 0}: 0}, "1", "0"), "[] none", "[]"},
		{automaton(guards("<>"), nil, strings.Fields(chain)...), "[]" + strings.Repeat(" none", 38) + " [a]", "[]"},
	} {
		l, e := auto.Least(x.a)
		same(t, told(witnesses(l), e), x.want, "Least", i)
		var some []string
		for def := range x.a.Yes[0] {
			w, e := auto.Some(x.a, def)
			some = append(some, told(witness(w), e))
		}
		same(t, strings.Join(some, " "), x.some, "Some", i)
	}
}

// P7.2: least forests with as many trees as a forest can have, and with more.
func TestLeastLimits(t *testing.T) {
	doubled := []int{0, 1, 3, 7, 15, 31, 63, 127, 255}
	for _, x := range []struct {
		sizes []int
		e     api.Errno
	}{
		{append(slices.Clone(doubled), 383, 399, 400), api.OK}, {append(slices.Clone(doubled), 383, 399, 401), api.ErrLimit}, {append(slices.Clone(doubled), 511), api.ErrLimit}, {doubled, api.OK}, {[]int{0, 1, 3, 7, 15, 31, 63, 127, 255, 511, 1023, 2047, 4095, 8191, 16383, 32767, 65535}, api.ErrLimit},
	} {
		a := sized(x.sizes...)
		for s := range a.Yes {
			a.Yes[s] = append(a.Yes[s], s == 2)
		}
		l, e := auto.Least(a)
		same(t, e, x.e, "Least", x.sizes)
		same(t, e == api.OK || len(l) == 0, true, "Least with an error", x.sizes)
		for s, w := range l {
			if s < len(x.sizes) {
				same(t, size(w.Forest), x.sizes[s], "the size of the least one", x.sizes)
				same(t, tree.Check(w.Forest), api.OK, "the error of the least one", x.sizes)
			}
		}
		// also where the forest that is asked for is not too large
		for def, want := range []string{"[]", "[a a{a}]"} {
			w, e := auto.Some(a, def)
			if x.e != api.OK {
				want = failed(x.e) + "none"
			}
			same(t, told(witness(w), e), want, "Some", x.sizes)
		}
	}
	// a sum that does not fit an int, if it is not given up
	long := blank(guards("<>"), 40)
	for s := range long.Next {
		for k := range long.Next {
			long.Next[s][1][k] = 0
			if s == k {
				long.Next[s][1][k] = min(s+1, 39)
			}
		}
	}
	_, e := auto.Least(long)
	same(t, e, api.ErrLimit, "Least of what has no size")
	// each state has elements around the one before
	deep := blank(guards("<>"), 40)
	for k := range deep.Next {
		deep.Next[0][1][k] = min(k+1, 39)
	}
	l, e := auto.Least(deep)
	same(t, e, api.OK, "Least of what is deep")
	for s, w := range l {
		depth, _ := tree.Deep(w.Forest)
		same(t, fmt.Sprint(size(w.Forest), depth, w.Found), fmt.Sprint(s, s, true), "the depth of the least one", s)
	}
}

// P7.9 and P7.2: the least forest of a state has it, and none that is smaller does; a state without one has no forest.
func TestLeast(t *testing.T) {
	lookedUp := 0
	for seed := range uint64(250) {
		m := newMaker(seed)
		a := m.any(6)
		x := read(a)
		want := x.least()
		l, e := auto.Least(a)
		same(t, e, api.OK, "Least", a)
		same(t, len(l), len(a.Next), "how many", a)
		for s, w := range l {
			f, is := want[s]
			same(t, witness(w), witness(api.Witness{Found: is, Forest: f}), "Least", s, a)
		}
		first := map[int]string{}
		for _, f := range newForests(x.heads()).upTo(4) {
			s := x.state(f)
			if _, is := first[s]; !is {
				first[s] = witness(api.Witness{Found: true, Forest: f})
				same(t, witness(l[s]), first[s], "the first of all", s, a)
				lookedUp++
			}
		}
		for def := range a.Yes[0] {
			w, e := auto.Some(a, def)
			best := api.Witness{}
			for s, yes := range a.Yes {
				if f, is := want[s]; yes[def] && is && (!best.Found || compare(f, best.Forest) < 0) {
					best = api.Witness{Found: true, Forest: f}
				}
			}
			same(t, told(witness(w), e), witness(best), "Some", def, a)
			if w.Found {
				of, _ := auto.Is(a, w.Forest, def)
				same(t, of, true, "Some is of the definition", def, a)
			}
		}
	}
	same(t, lookedUp > 400, true, "looked up", lookedUp)
	// the forests of larger automata are improved until they are least
	for seed := range uint64(12) {
		m := newMaker(seed)
		a := m.automaton(m.guards(), 20, 1)
		l, e := auto.Least(a)
		same(t, e, api.OK, "Least", seed)
		want := read(a).least()
		for s, w := range l {
			f, is := want[s]
			same(t, witness(w), witness(api.Witness{Found: is, Forest: f}), "Least", seed, s)
			if is {
				state, _ := auto.Run(a, f)
				same(t, state, s, "its state", seed)
			}
		}
	}
}

// The errors of Least and Some, in their order.
func TestLeastErrors(t *testing.T) {
	for i, x := range wrongAutomata() {
		l, e := auto.Least(x.a)
		same(t, told(witnesses(l), e), failed(x.e), "Least", i)
		w, e := auto.Some(x.a, -1)
		same(t, told(witness(w), e), failed(x.e)+"none", "Some", i)
	}
	large := sized(0, 1, 3, 7, 15, 31, 63, 127, 255, 511)
	for _, x := range []struct {
		a   api.Auto
		def int
		e   api.Errno
	}{{onlyA(), 1, api.ErrAbsent}, {onlyA(), -1, api.ErrAbsent}, {large, 1, api.ErrAbsent}, {large, 0, api.ErrLimit}, {blank(guards("<>"), 1), 0, api.ErrAbsent}, {onlyA(), -1 << 63, api.ErrAbsent}} {
		w, e := auto.Some(x.a, x.def)
		same(t, told(witness(w), e), failed(x.e)+"none", "Some", x.def)
	}
}
