package grammar_test

import (
	"fmt"
	"regexp"
	"slices"
	"strings"
	"testing"

	"withy/api"
	"withy/grammar"
)

// links are what Uses, Reach, Loops, Stars and Labels return, as a text.
func links(g api.Grammar, def int) string {
	uses, e := grammar.Uses(g, def)
	reach, e1 := grammar.Reach(g, def)
	loops, e2 := grammar.Loops(g, def)
	stars, e3 := grammar.Stars(g, def)
	labels, e4 := grammar.Labels(g, def)
	s := fmt.Sprint(uses, reach, loops, stars, labels)
	for _, e := range []api.Errno{e, e1, e2, e3, e4} {
		if e != api.OK {
			s += fmt.Sprint(" error ", e)
		}
	}
	return s
}

// P5.3: Uses, Reach, Loops, Stars and Labels.
func TestLinks(t *testing.T) {
	for text, want := range map[string]string{
		exampleText: "[] [0] false 0 []; [0 1] [0 1] true 1 [b]; [1] [0 1 2] false 0 [b p]; [1] [0 1 3] false 0 [b h]; [2 3] [0 1 2 3 4] false 1 [b h p]; [4] [0 1 2 3 4 5] false 0 [b doc h p]",
		// by trees, and by names; in a circle
		"a:[x]b\nb:[y]c\nc:[z]a\nd:[w]d\ne:a\n": "[1] [0 1 2] true 0 [x y z]; [2] [0 1 2] true 0 [x y z]; [0] [0 1 2] true 0 [x y z]; [3] [3] true 0 [w]; [0] [0 1 2 4] false 0 [x y z]",
		"a:[*]d\nb:a\nc:(b,b)\nd:(c|[*]b)\n":    "[3] [0 1 2 3] true 0 []; [0] [0 1 2 3] true 0 []; [1] [0 1 2 3] true 0 []; [1 2] [0 1 2 3] true 0 []",
		"a:(~|.)\nb:!a\nc:(b,a)\n":              "[] [0] false 0 []; [0] [0 1] false 0 []; [0 1] [0 1 2] false 0 []",
		// a definition that reaches a recursive one is not recursive by that
		"a:[*]a\nb:[*]a\nc:([*]b|b)\n": "[0] [0] true 0 []; [0] [0 1] false 0 []; [1] [0 1 2] false 0 []",
		// stars within each other, by names, but not by trees; the most of them, not all
		"a:*[x]a\nb:*(a,!*a)\nc:*(b|[y]c)\nd:(c,c)\n":                        "[0] [0] true 1 [x]; [0] [0 1] false 3 [x]; [1 2] [0 1 2] true 4 [x y]; [2] [0 1 2 3] false 4 [x y]",
		"a:~\nb:***a\nc:(*b%(**~&*.))\nd:(**~,*~)\ne:[*]b\nf:*(e,(d,**.))\n": "[] [0] false 0 []; [0] [0 1] false 3 []; [1] [0 1 2] false 4 []; [] [3] false 2 []; [1] [0 1 4] false 0 []; [3 4] [0 1 3 4 5] false 3 []",
		// labels at any depth, but no attributes and texts; as bytes
		"a:[!(b|(a2&!@z))]a\nb:([\"z\"]a|([@y=\"x\"]a|[a]a))\nc:[(a&!(a10|@w))]a\n": "[0] [0] true 0 [a2 b]; [0] [0 1] false 0 [a a2 b]; [0] [0 2] false 0 [a a10 a2 b]",
	} {
		g := must(t, text)
		var l []string
		for def := range g.Defs {
			l = append(l, links(g, def))
		}
		same(t, strings.Join(l, "; "), want, "links", text)
	}
}

var (
	wordsIn    = regexp.MustCompile(`[a-z][a-z0-9]*`)
	bracketsIn = regexp.MustCompile(`\[(?:"(?:\\.|[^"\\])*"|[^\]"])*\]`)
)

// P5.3: the same, of random grammars, by their texts: names that are not in brackets, and steps from name to name.
func TestRandomLinks(t *testing.T) {
	loops := 0
	for seed := range uint64(400) {
		g := newMaker(seed, allSorts).grammar(8, 7)
		count := len(g.Defs)
		steps := make([][]bool, count) // in any number of steps, from one on
		var uses, labels [][]string
		for def, line := range lines(g) {
			_, text, _ := strings.Cut(line, ":")
			steps[def] = make([]bool, count)
			used := slices.Compact(slices.Sorted(slices.Values(wordsIn.FindAllString(bracketsIn.ReplaceAllString(text, ""), -1))))
			for _, name := range used {
				steps[def][slices.Index(namesOf(g), name)] = true
			}
			uses = append(uses, used)
			labels = append(labels, nil)
			for _, r := range flat(g.Defs[def].Body) {
				labels[def] = append(labels[def], labelsOf(r.Guard)...)
			}
		}
		for range count {
			for i := range count {
				for k := range count {
					for over := range count {
						steps[i][k] = steps[i][k] || steps[i][over] && steps[over][k]
					}
				}
			}
		}
		for def := range count {
			used, reached, named := []int{}, []int{}, []string{}
			for k := range count {
				if slices.Contains(uses[def], g.Defs[k].Name) {
					used = append(used, k)
				}
				if k == def || steps[def][k] {
					reached = append(reached, k)
					named = append(named, labels[k]...)
				}
			}
			slices.Sort(named)
			if steps[def][def] {
				loops++
			}
			want := fmt.Sprint(used, reached, steps[def][def], deepest(opened(g, g.Defs[def].Body)), slices.Compact(named))
			same(t, links(g, def), want, "links", grammarText(g), def)
		}
	}
	same(t, loops > 100, true, "recursive definitions", loops)
}

func labelsOf(g api.Guard) []string {
	var l []string
	if g.Op == api.GLabel {
		l = append(l, g.Name)
	}
	for _, sub := range g.Subs {
		l = append(l, labelsOf(sub)...)
	}
	return l
}

// opened is the expression with what definitions say in the place of their names.
func opened(g api.Grammar, r api.Re) api.Re {
	if r.Op == api.RRef {
		return opened(g, g.Defs[r.Def].Body)
	}
	var subs []api.Re
	for _, sub := range r.Subs {
		subs = append(subs, opened(g, sub))
	}
	r.Subs = subs
	return r
}

// deepest is how many stars are in each other in an expression.
func deepest(r api.Re) int {
	most := 0
	for _, sub := range r.Subs {
		most = max(most, deepest(sub))
	}
	return most + map[bool]int{true: 1}[r.Op == api.RStar]
}

// P5.9: what a definition reaches is closed, and nothing else is needed to say which forests are of it.
func TestReached(t *testing.T) {
	others := 0
	for seed := range uint64(300) {
		m := newMaker(seed, allSorts)
		g := m.grammar(7, 7)
		for def := range g.Defs {
			reach, _ := grammar.Reach(g, def)
			same(t, slices.Contains(reach, def), true, "a definition reaches itself", grammarText(g), def)
			needed := map[int]bool{def: true}
			changed := defs(slices.Clone(g.Defs)...)
			for k := range g.Defs {
				if !slices.Contains(reach, k) {
					changed.Defs[k].Body = []api.Re{none(), eps(), not(none()), one(api.Guard{}, def)}[m.IntN(4)]
					others++
				}
			}
			for _, k := range reach {
				uses, _ := grammar.Uses(g, k)
				for _, used := range uses {
					needed[used] = true
					same(t, slices.Contains(reach, used), true, "what is used is reached", grammarText(g), def, k)
				}
				again, _ := grammar.Reach(g, k)
				for _, further := range again {
					same(t, slices.Contains(reach, further), true, "what is reached is closed", grammarText(g), def, k)
				}
			}
			same(t, len(needed), len(reach), "what is reached is used", grammarText(g), def)
			for range 10 {
				f := m.forest(8)
				same(t, in(changed, f)[def], in(g, f)[def], "what is not reached is not needed", grammarText(g), def, forestText(f))
			}
		}
	}
	same(t, others > 1000, true, "definitions that are not reached", others)
}

// P5.9: what is reached is needed: without a definition something else can be of the one that reaches it.
func TestNeeded(t *testing.T) {
	g := must(t, "a:.\nb:[b]a\nc:([c]b|b)\nd:[d]d\n")
	f := forest(t, "c{b}")
	same(t, in(g, f), "0010", "All")
	for def, want := range []string{"0000", "0000", "0000", "0010"} {
		h, e := grammar.Put(g, def, none())
		same(t, e, api.OK, "Put", def)
		same(t, in(h, f), want, "All without a definition", def)
	}
}
