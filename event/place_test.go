package event_test

import (
	"fmt"
	"math"
	"slices"
	"strings"
	"testing"

	"withy/api"
	"withy/event"
	"withy/tree"
)

// P4.2: the examples of the chapter.
func TestPlaceExamples(t *testing.T) {
	l := eventsOf(t, must(t, exampleText))
	same(t, toldAll(l), `<a(k="v") ."hi" .3/4 > <b >`, "Of")
	for at, want := range []string{"3 [0]", "1 [0 0]", "2 [0 1]", "0 [0]", "5 [1]", "4 [1]"} {
		m, e := event.Match(l, at)
		same(t, e, api.OK, "Match", at)
		path, e := event.Path(l, at)
		same(t, e, api.OK, "Path", at)
		same(t, fmt.Sprint(m, " ", path), want, "Match and Path", at)
	}
	open, e := event.Open(l[:2])
	same(t, e, api.OK, "Open")
	same(t, fmt.Sprint(open), fmt.Sprint([]api.Head{head("a", attr("k", "v"))}), "Open")
	end, e := event.Closing(l[:2])
	same(t, e, api.OK, "Closing")
	same(t, toldAll(end), ">", "Closing")
	same(t, event.Check(l[:2]), api.ErrState, "Check")
	same(t, event.Begins(l[:2]), api.OK, "Begins")
}

// openOf are the heads of what is open behind events: those that begin, but for those that end, from the last one on.
func openOf(l []api.Event) []string {
	s := []string{}
	for _, x := range l {
		switch x.Kind {
		case api.EvOpen:
			s = append(s, headText(x.Head))
		case api.EvClose:
			s = s[:len(s)-1]
		}
	}
	return s
}

// P4.2: Open and Closing. P4.8: each beginning of events can be ended.
func TestOpen(t *testing.T) {
	for _, f := range samples(150) {
		l := eventsOf(t, f)
		for i := range len(l) + 1 {
			want := openOf(l[:i])
			open, e := event.Open(l[:i])
			same(t, e, api.OK, "Open", i, forestText(f))
			var got []string
			for _, h := range open {
				got = append(got, headText(h))
			}
			same(t, strings.Join(got, " "), strings.Join(want, " "), "Open", i, forestText(f))
			end, e := event.Closing(l[:i])
			same(t, e, api.OK, "Closing", i, forestText(f))
			same(t, toldAll(end), strings.TrimSuffix(strings.Repeat("> ", len(want)), " "), "Closing", i, forestText(f))
			whole := slices.Concat(l[:i], end)
			same(t, event.Check(whole), api.OK, "P4.8: ended", i, forestText(f))
			if len(end) > 0 {
				same(t, event.Check(whole[:len(whole)-1]), api.ErrState, "P4.8: not ended", i, forestText(f))
			}
		}
	}
}

// P4.2: Match and Path. P4.8: each event has its match, and its path.
func TestMatch(t *testing.T) {
	for _, f := range samples(150) {
		l := eventsOf(t, f)
		paths, _ := tree.Paths(f)
		for at, x := range l {
			m, e := event.Match(l, at)
			same(t, e, api.OK, "Match", at, forestText(f))
			back, e := event.Match(l, m)
			same(t, e, api.OK, "Match of the match", at, forestText(f))
			same(t, back, at, "Match of the match", at, forestText(f))
			path, e := event.Path(l, at)
			same(t, e, api.OK, "Path", at, forestText(f))
			tr, e := tree.At(f, path)
			same(t, e, api.OK, "tree.At of Path", at, forestText(f))
			same(t, headText(tr.Head), headText(l[min(m, at)].Head), "the head there", at, forestText(f))
			other, _ := event.Path(l, m)
			same(t, slices.Equal(path, other), true, "Path of the match", at, forestText(f))
			between := wanted(tr.Kids)
			if tr.Kind == api.Elem {
				same(t, max(m, at)-min(m, at), len(between)+1, "Match", at, forestText(f))
			} else {
				same(t, m, at, "Match of a leaf", at, forestText(f))
			}
			if x.Kind != api.EvClose {
				same(t, slices.Equal(path, paths[0]), true, "Path", at, forestText(f))
				paths = paths[1:]
			}
			begun, e := event.Path(l[:at+1], at)
			same(t, e, api.OK, "Path of a beginning", at, forestText(f))
			same(t, slices.Equal(path, begun), true, "Path of a beginning", at, forestText(f))
		}
		same(t, len(paths), 0, "trees without events", forestText(f))
	}
}

// P4.2: the errors, those of events before those of indexes.
func TestPlaceErrors(t *testing.T) {
	l := eventsOf(t, example())
	for _, at := range []int{-1, len(l), len(l) + 1, math.MaxInt, math.MinInt} {
		m, e := event.Match(l, at)
		same(t, e, api.ErrAbsent, "Match", at)
		same(t, m, 0, "Match", at)
		path, e := event.Path(l, at)
		same(t, e, api.ErrAbsent, "Path", at)
		same(t, len(path), 0, "Path", at)
		_, e = event.Match(l[:2], at)
		same(t, e, api.ErrState, "Match of a beginning", at)
		_, e = event.Path(l[:2], at)
		same(t, e, api.ErrAbsent, "Path of a beginning", at)
	}
	_, e := event.Match(nil, 0)
	same(t, e, api.ErrAbsent, "Match of none")
	_, e = event.Path(nil, 0)
	same(t, e, api.ErrAbsent, "Path of none")
	for i, x := range wrongBeginnings() {
		for _, at := range []int{0, -1, len(x.l)} {
			heads, e := event.Open(x.l)
			same(t, e, x.e, "Open", i)
			same(t, len(heads), 0, "Open", i)
			end, e := event.Closing(x.l)
			same(t, e, x.e, "Closing", i)
			same(t, len(end), 0, "Closing", i)
			m, e := event.Match(x.l, at)
			same(t, e, x.e, "Match", i, at)
			same(t, m, 0, "Match", i, at)
			path, e := event.Path(x.l, at)
			same(t, e, x.e, "Path", i, at)
			same(t, len(path), 0, "Path", i, at)
		}
	}
	for i, l := range unended() {
		_, e := event.Match(l, 0)
		same(t, e, api.ErrState, "Match of a beginning", i)
		path, e := event.Path(l, 0)
		same(t, e, api.OK, "Path of a beginning", i)
		same(t, fmt.Sprint(path), "[0]", "Path of a beginning", i)
	}
}
