package guard

import (
	"cmp"
	"iter"
	"slices"
	"strings"

	"withy/api"
	"withy/num"
	"withy/share"
)

// marks are what the guards of a list name, each once, and in order.
type marks struct {
	labels, attrs, texts []string
	values               map[string][]string // of each attribute
	numbers              []api.Num
}

func marksOf(l []api.Guard) marks {
	m := marks{values: map[string][]string{}}
	for _, g := range l {
		for part := range share.Parts(g) {
			m.note(part)
		}
	}
	return m
}

func (m *marks) note(g api.Guard) {
	switch g.Op {
	case api.GLabel:
		m.labels = insert(m.labels, g.Name, strings.Compare)
	case api.GAttr:
		m.values[g.Name] = insert(m.values[g.Name], g.Value, strings.Compare)
		fallthrough
	case api.GHas:
		m.attrs = insert(m.attrs, g.Name, strings.Compare)
	case api.GBelow:
		m.numbers = insert(m.numbers, g.At, compareNumbers)
	case api.GIs, api.GStarts:
		m.texts = insert(m.texts, g.Value, strings.Compare)
	}
}

// insert puts x into a list at its place, if it is not there.
func insert[T any](l []T, x T, compare func(a, b T) int) []T {
	i, found := slices.BinarySearchFunc(l, x, compare)
	if found {
		return l
	}
	return slices.Insert(l, i, x)
}

// tooMany is whether more is named than a list may name.
func (m marks) tooMany() bool {
	most := max(len(m.labels), len(m.attrs), len(m.texts), len(m.numbers))
	for _, v := range m.values {
		most = max(most, len(v))
	}
	return most > api.MaxMarked
}

// candidates yield the candidates of each kind. What they yield shares no memory.
func (m marks) candidates() []iter.Seq[api.Head] {
	return []iter.Seq[api.Head]{m.elementHeads, m.numberHeads, m.textHeads}
}

func (m marks) elementHeads(yield func(api.Head) bool) {
	// grow yields a head, and it with some of these attributes more.
	var grow func(h api.Head, attrs []string) bool
	grow = func(h api.Head, attrs []string) bool {
		if !yield(h) {
			return false
		}
		if len(h.Attrs) == api.MaxAttrs {
			return true
		}
		for i, name := range attrs {
			for _, value := range m.valuesOf(name) {
				larger := h
				larger.Attrs = append(slices.Clip(h.Attrs), api.Attr{Name: name, Value: value})
				if !grow(larger, attrs[i+1:]) {
					return false
				}
			}
		}
		return true
	}
	for _, label := range append(slices.Clip(m.labels), firstOther(m.labels, 'a')) {
		if !grow(api.Head{Label: label}, m.attrs) {
			return
		}
	}
}

// valuesOf returns those that are named for an attribute, and the first one that is not.
func (m marks) valuesOf(attr string) []string {
	l := m.values[attr]
	other := ""
	if slices.Contains(l, other) {
		other = firstOther(l, ' ')
	}
	return append(slices.Clip(l), other)
}

// firstOther returns the first string of one byte, from a byte on, that is not in a list. The list is so short that it is near.
func firstOther(l []string, from byte) string {
	for slices.Contains(l, string(rune(from))) {
		from++
	}
	return string(rune(from))
}

// outside is so far from all numbers that can be named that the simplest ones beyond these are not beyond it.
const outside = api.MaxAt + 2

func (m marks) numberHeads(yield func(api.Head) bool) {
	l := slices.Clone(m.numbers)
	low := whole(-outside)
	for _, high := range append(slices.Clip(m.numbers), whole(outside)) {
		l = append(l, between(low, high)...)
		low = high
	}
	for _, n := range l {
		if !yield(api.Head{Kind: api.Number, Num: n}) {
			return
		}
	}
}

// between returns the simplest whole number above a and below b, if there is one, and the simplest number there that is not whole.
func between(a, b api.Num) []api.Num {
	s := simplest(a, b)
	if s.D > 1 {
		return []api.Num{s} // a whole number would be simpler
	}
	// The simplest one that is not whole is within 1 of s: each other one has a simpler one there, nearer to 0 by a whole number.
	below := simplest(slices.MaxFunc([]api.Num{a, whole(s.N - 1)}, compareNumbers), s)
	above := simplest(s, slices.MinFunc([]api.Num{b, whole(s.N + 1)}, compareNumbers))
	return []api.Num{s, slices.MinFunc([]api.Num{below, above}, compareSimple)}
}

// simplest returns the simplest number above a and below b, which are valid, and apart.
func simplest(a, b api.Num) api.Num {
	s, _ := num.Simplest(a, b)
	return s
}

// compareSimple returns -1 if a is simpler than b.
func compareSimple(a, b api.Num) int {
	return cmp.Or(cmp.Compare(a.D, b.D), cmp.Compare(max(a.N, -a.N), max(b.N, -b.N)), cmp.Compare(b.N, a.N))
}

func whole(n int) api.Num { return api.Num{N: n, D: 1} }

func (m marks) textHeads(yield func(api.Head) bool) {
	for _, front := range append(slices.Clip(m.texts), "") {
		if !yield(api.Head{Kind: api.Text, Text: front}) {
			return
		}
		for b := ' '; b <= '~' && len(front) < api.MaxText; b++ {
			if !yield(api.Head{Kind: api.Text, Text: front + string(b)}) {
				return
			}
		}
	}
}
