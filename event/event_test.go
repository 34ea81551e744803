package event_test

import (
	"reflect"
	"slices"
	"strings"
	"testing"

	"withy/api"
	"withy/event"
	"withy/tree"
)

// P4.1: Begins and Check.
func TestCheck(t *testing.T) {
	for _, f := range samples(100) {
		l := eventsOf(t, f)
		same(t, event.Begins(l), api.OK, "Begins", forestText(f))
		same(t, event.Check(l), api.OK, "Check", forestText(f))
		for i := range l {
			want := api.OK
			if len(openOf(l[:i])) > 0 {
				want = api.ErrState
			}
			same(t, event.Begins(l[:i]), api.OK, "Begins", i, forestText(f))
			same(t, event.Check(l[:i]), want, "Check", i, forestText(f))
		}
	}
	for i, x := range wrongBeginnings() {
		same(t, event.Begins(x.l), x.e, "Begins", i)
		same(t, event.Check(x.l), x.e, "Check", i)
	}
	for i, l := range unended() {
		same(t, event.Begins(l), api.OK, "Begins", i)
		same(t, event.Check(l), api.ErrState, "Check", i)
	}
	full := slices.Repeat([]api.Event{open(head("a")), shut()}, api.MaxTrees)
	same(t, event.Check(full), api.OK, "as many trees as there can be")
	deep := slices.Concat(slices.Repeat([]api.Event{open(head("a"))}, api.MaxDeep), slices.Repeat([]api.Event{shut()}, api.MaxDeep))
	same(t, event.Check(deep), api.OK, "as deep as it can be")
	same(t, event.Check([]api.Event{open(head("a")), {Kind: api.EvClose, Head: api.Head{Attrs: []api.Attr{}}}}), api.OK, "R3: attributes of which there are none")
}

// P4.1: Of and Trees. P4.4: Text. P4.5: each is made from the others as it was.
func TestOf(t *testing.T) {
	for _, f := range samples(500) {
		s := forestText(f)
		l, e := event.Of(f)
		same(t, e, api.OK, "Of", s)
		same(t, toldAll(l), strings.Join(wanted(f), " "), "Of", s)
		for _, x := range l {
			if x.Kind == api.EvClose {
				same(t, reflect.ValueOf(x.Head).IsZero(), true, "the head of EvClose", s)
			}
		}
		g, e := event.Trees(l)
		same(t, e, api.OK, "Trees", s)
		same(t, forestText(g), s, "Trees")
		same(t, tree.Check(g), api.OK, "Trees", s)
		c, _ := tree.Compare(f, g)
		same(t, c, 0, "Trees", s)
		written, e := event.Text(l)
		same(t, e, api.OK, "Text", s)
		same(t, written, s, "Text")
	}
}

// P4.1: the errors of forests and events.
func TestOfErrors(t *testing.T) {
	bare := number(1, 1)
	bare.Kids = row(1)
	for i, x := range []struct {
		f []api.Tree
		e api.Errno
	}{
		{row(api.MaxTrees + 1), api.ErrMany}, {chain(api.MaxDeep + 1), api.ErrLimit}, {chain(api.MaxDeep, text("x")), api.ErrLimit}, {endless(), api.ErrMany}, {[]api.Tree{bare}, api.ErrForm}, {[]api.Tree{elem("A")}, api.ErrName}, {[]api.Tree{elem("a", number(1, 0))}, api.ErrRange}, {[]api.Tree{{Head: api.Head{Kind: 5}}}, api.ErrForm},
	} {
		l, e := event.Of(x.f)
		same(t, e, x.e, "Of", i)
		same(t, len(l), 0, "Of", i)
		b, e := event.Encode(x.f)
		same(t, e, x.e, "Encode", i)
		same(t, len(b), 0, "Encode", i)
	}
	wrong := wrongBeginnings()
	for _, l := range unended() {
		wrong = append(wrong, wrongEvents{l, api.ErrState})
	}
	for i, x := range wrong {
		f, e := event.Trees(x.l)
		same(t, e, x.e, "Trees", i)
		same(t, len(f), 0, "Trees", i)
		s, e := event.Text(x.l)
		same(t, e, x.e, "Text", i)
		same(t, s, "", "Text", i)
	}
}

// P4.4: the greatest texts.
func TestTextLimit(t *testing.T) {
	for _, extra := range []int{-1, 0, 1, 3000} {
		f := longText(api.MaxDoc + extra)
		s := forestText(f)
		same(t, len(s), api.MaxDoc+extra, "the test's text")
		want, wantE := s, api.OK
		if extra > 0 {
			want, wantE = "", api.ErrLimit
		}
		got, e := event.Text(eventsOf(t, f))
		same(t, got, want, "Text", extra)
		same(t, e, wantE, "Text", extra)
	}
}

// longText returns a forest with a text of so many bytes.
func longText(bytes int) []api.Tree {
	wide := elem("abcdefgh")
	wide.Attrs = []api.Attr{attr("abcdefgh", strings.Repeat(`"`, 12)), attr("b", strings.Repeat(`\`, 12)), attr("c", "")}
	var f []api.Tree
	left := bytes
	for step := len(headText(wide.Head)) + 1; left > step+30; left -= step {
		f = append(f, wide)
	}
	for left > 25 {
		f = append(f, text("12345678901")) // 13 bytes, and a blank
		left -= 14
	}
	return append(f, text(strings.Repeat("x", left-2)))
}
