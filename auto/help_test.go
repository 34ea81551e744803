package auto_test

import (
	"fmt"
	"math/rand/v2"
	"slices"
	"strings"
	"testing"

	"withy/api"
	"withy/auto"
	"withy/guard"
	"withy/tree"
)

func must(s string) []api.Tree {
	f, e := tree.Parse(s)
	if e != api.OK {
		panic(s)
	}
	return f
}

// text is the text of a forest, whether it is too large for one or not.
func text(f []api.Tree) string {
	if s, e := tree.Print(f); e == api.OK {
		return s
	}
	return plain(f)
}

// guards are those of texts.
func guards(l ...string) []api.Guard {
	var all []api.Guard
	for _, s := range l {
		g, e := guard.Parse(s)
		if e != api.OK {
			panic(s)
		}
		all = append(all, g)
	}
	return all
}

// finest are guards with 864 regions of elements: three bits tell of each of three attributes whether it is there, and which of five values it has; two tell four labels.
func finest() []api.Guard {
	l := []string{"<>", "(a|b)", "(a|c)"}
	for _, bit := range []string{`(@k&!((1|2)|3))`, `(2|3)`, `((1|3)|(@k&!((1|2)|(3|4))))`} {
		for _, k := range []string{"k", "l", "m"} {
			values := strings.NewReplacer("@k", "@"+k, "1", "@"+k+`="1"`, "2", "@"+k+`="2"`, "3", "@"+k+`="3"`, "4", "@"+k+`="4"`)
			l = append(l, values.Replace(bit))
		}
	}
	return guards(l...)
}

// step is the index of an element of Next.
type step struct{ state, region, kids int }

// automaton returns the one of these guards, and as many states as rows of yes: Next is 'to' where a step is there, otherwise the last state. A row has a byte for each definition, '1' for true.
func automaton(l []api.Guard, to map[step]int, yes ...string) api.Auto {
	a := blank(l, len(yes))
	for s, row := range yes {
		a.Yes[s] = bools(row)
		for r := range a.Next[s] {
			for k := range yes {
				a.Next[s][r][k] = len(yes) - 1
				if n, is := to[step{s, r, k}]; is {
					a.Next[s][r][k] = n
				}
			}
		}
	}
	return a
}

// blank returns an automaton with so many states, whose Next are 0, and without definitions.
func blank(l []api.Guard, states int) api.Auto {
	regions, _ := guard.Regions(l)
	a := api.Auto{Guards: l}
	for range states {
		rows := make([][]int, len(regions))
		for r := range rows {
			rows[r] = make([]int, states)
		}
		a.Next = append(a.Next, rows)
		a.Yes = append(a.Yes, nil)
	}
	return a
}

func bools(s string) []bool {
	var l []bool
	for _, b := range s {
		l = append(l, b == '1')
	}
	return l
}

// onlyA is A of the chapter: forests that consist of elements a without kids.
func onlyA() api.Auto {
	return automaton(guards("<>", "a"), map[step]int{{0, 2, 0}: 1, {1, 2, 0}: 1}, "1", "1", "0")
}

// modulo has forests by how many trees they have beside each other, modulo a number: a definition for each.
func modulo(n int) api.Auto {
	a := blank(guards("<>"), n)
	for s, rows := range a.Next {
		for _, row := range rows {
			for k := range row {
				row[k] = (s + 1) % n
			}
		}
		a.Yes[s] = make([]bool, min(n, 3))
		a.Yes[s][s%len(a.Yes[s])] = true
	}
	return a
}

// sized has one state for each of these sizes, and a last one for all other forests. Each size is the sum of 1 and two sizes before it: the first pair of those that is found leads there, by the state of the front, and that of the kids.
func sized(sizes ...int) api.Auto {
	to := map[step]int{}
	for i, size := range sizes {
		for pair := range i * i {
			if front, kids := pair/i, pair%i; sizes[front]+1+sizes[kids] == size {
				to[step{front, 1, kids}] = i
				break
			}
		}
	}
	return automaton(guards("<>"), to, slices.Repeat([]string{"1"}, len(sizes)+1)...)
}

func is(def int) api.Mix { return api.Mix{Def: def} }

func mix(op api.MixOp, subs ...api.Mix) api.Mix { return api.Mix{Op: op, Subs: subs} }

func not(m api.Mix) api.Mix { return mix(api.MixNot, m) }

// nots is a mix within so many MixNot.
func nots(count int, m api.Mix) api.Mix {
	for range count {
		m = not(m)
	}
	return m
}

// endless is a mix that holds itself.
func endless() api.Mix {
	m := mix(api.MixAnd, is(0), is(0))
	m.Subs[1] = m
	return m
}

// with returns an automaton with one definition more, which is a mix.
func with(a api.Auto, m api.Mix) api.Auto {
	b, e := auto.Mean(a, m)
	if e != api.OK {
		panic(fmt.Sprint("Mean: ", e))
	}
	return b
}

// clone returns an automaton that shares no memory with a.
func clone(a api.Auto) api.Auto {
	b := api.Auto{Guards: slices.Clone(a.Guards)}
	for s := range a.Next {
		var rows [][]int
		for _, row := range a.Next[s] {
			rows = append(rows, slices.Clone(row))
		}
		b.Next = append(b.Next, rows)
	}
	for _, yes := range a.Yes {
		b.Yes = append(b.Yes, slices.Clone(yes))
	}
	return b
}

// plain is a value as a text that does not tell nil from empty.
func plain(x any) string { return fmt.Sprintf("%v", x) }

func same[T comparable](t *testing.T, got, want T, what ...any) {
	t.Helper()
	if got != want {
		t.Errorf("%s: %s, not %s", brief(what), brief(got), brief(want))
	}
}

func brief(x any) string {
	s := fmt.Sprintf("%v", x)
	if len(s) > 500 {
		return s[:250] + ".." + s[len(s)-250:]
	}
	return s
}

// told is what a function has returned: a value as a text, or an error, with which only an empty value comes.
func told(value string, e api.Errno) string {
	if e != api.OK {
		return fmt.Sprintf("error %d%s", e, value)
	}
	return value
}

func failed(e api.Errno) string { return fmt.Sprintf("error %d", e) }

// tables are the guards, and the tables, of an automaton, as a text: "" of a zero value.
func tables(a api.Auto) string {
	if len(a.Guards)+len(a.Next)+len(a.Yes) == 0 {
		return ""
	}
	return plain(a)
}

// witness is a witness as a text.
func witness(w api.Witness) string {
	switch {
	case w.Found:
		return "[" + text(w.Forest) + "]"
	case len(w.Forest) > 0:
		return "a forest that was not found"
	}
	return "none"
}

func witnesses(l []api.Witness) string {
	var all []string
	for _, w := range l {
		all = append(all, witness(w))
	}
	return strings.Join(all, " ")
}

// maker makes random automata, the same ones for the same seed.
type maker struct{ *rand.Rand }

func newMaker(seed uint64) maker { return maker{rand.New(rand.NewPCG(7, seed))} }

// guards returns GElem, and some more.
func (m maker) guards() []api.Guard {
	l := guards("<>")
	more := guards("a", "b", "#", "@k", "<1", `"x"`, "!a", "*", `(a|@k="1")`, "%", "a", "<>")
	for range m.IntN(4) {
		l = append(l, more[m.IntN(len(more))])
	}
	return l
}

// automaton returns one of so many states, of which most of what is behind some leads to few.
func (m maker) automaton(l []api.Guard, states, defs int) api.Auto {
	a := blank(l, states)
	most := 1 + m.IntN(states)
	for s, rows := range a.Next {
		for _, row := range rows {
			for k := range row {
				row[k] = m.IntN(states)
				if m.IntN(3) > 0 {
					row[k] = m.IntN(most)
				}
			}
		}
		for range defs {
			a.Yes[s] = append(a.Yes[s], m.IntN(3) == 0)
		}
	}
	return a
}

// any returns one of at most so many states, with at most three definitions.
func (m maker) any(most int) api.Auto {
	return m.automaton(m.guards(), 1+m.IntN(most), 1+m.IntN(3))
}

// mix returns one of at most so many mixes, of so many definitions.
func (m maker) mix(count, defs int) api.Mix {
	switch {
	case count > 2 && m.IntN(4) > 0:
		front := 1 + m.IntN(count-2)
		one := m.mix(front, defs)
		return mix(api.MixAnd+api.MixOp(m.IntN(2)), one, m.mix(count-1-front, defs))
	case count > 1 && m.IntN(2) > 0:
		return not(m.mix(count-1, defs))
	}
	return is(m.IntN(defs))
}
