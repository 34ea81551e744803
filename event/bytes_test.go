package event_test

import (
	"bytes"
	"encoding/binary"
	"math/rand/v2"
	"runtime"
	"slices"
	"strings"
	"testing"
	"time"

	"withy/api"
	"withy/event"
)

// speller writes events as bytes: its counts, and its whole numbers, are those of encoding/binary, which chapter 4 describes.
type speller struct {
	l    []byte
	came []string
}

func (w *speller) count(n int) { w.l = binary.AppendUvarint(w.l, uint64(n)) }

func (w *speller) string(s string) {
	if i := slices.Index(w.came, s); i >= 0 {
		w.count(i + 1)
		return
	}
	w.came = append(w.came, s)
	w.count(0)
	w.count(len(s))
	w.l = append(w.l, s...)
}

func (w *speller) event(x api.Event) {
	switch {
	case x.Kind == api.EvClose:
		w.l = append(w.l, 2)
	case x.Kind == api.EvOpen:
		w.l = append(w.l, 1)
		w.string(x.Head.Label)
		w.count(len(x.Head.Attrs))
		for _, a := range x.Head.Attrs {
			w.string(a.Name)
			w.string(a.Value)
		}
	case x.Head.Kind == api.Number:
		w.l = append(w.l, 3)
		w.l = binary.AppendVarint(w.l, int64(x.Head.Num.N))
		w.count(x.Head.Num.D)
	default:
		w.l = append(w.l, 4)
		w.string(x.Head.Text)
	}
}

func spell(l []api.Event) []byte {
	w := &speller{}
	for _, x := range l {
		w.event(x)
	}
	return w.l
}

// reader of what a speller writes: it fails if there is too little, or a count is too long.
type unspeller struct {
	l      []byte
	came   []string
	failed bool
}

func (r *unspeller) count() int {
	n, size := binary.Uvarint(r.l)
	if size < 1 || size > 5 {
		r.failed, r.l = true, nil
		return 0
	}
	r.l = r.l[size:]
	return int(n)
}

func (r *unspeller) string() string {
	n := r.count()
	if n > 0 && n <= len(r.came) {
		return r.came[n-1]
	}
	size := r.count()
	if n > 0 || size > len(r.l) || r.failed {
		r.failed, r.l = true, nil
		return ""
	}
	s := string(r.l[:size])
	r.l = r.l[size:]
	r.came = append(r.came, s)
	return s
}

func (r *unspeller) event() api.Event {
	code := r.l[0]
	r.l = r.l[1:]
	switch code {
	case 1:
		h := head(r.string())
		for count := r.count(); count > 0 && !r.failed; count-- {
			name := r.string()
			h.Attrs = append(h.Attrs, attr(name, r.string()))
		}
		return open(h)
	case 2:
		return shut()
	case 3:
		n := r.count()
		whole := int64(n / 2)
		if n%2 == 1 {
			whole = ^whole
		}
		return leaf(number(int(whole), r.count()).Head)
	case 4:
		return leaf(text(r.string()).Head)
	}
	r.failed = true
	return api.Event{}
}

// unspell returns the events that are written as these bytes, and whether there are any: it reads as much as it can, and asks whether just this is written.
func unspell(b []byte) ([]api.Event, bool) {
	r := &unspeller{l: b}
	var l []api.Event
	for len(r.l) > 0 && !r.failed {
		x := r.event()
		l = append(l, x)
	}
	return l, !r.failed && bytes.Equal(spell(l), b)
}

// decodes holds what Decode returns for some bytes, which are not too many, against what it has to. It tells whether they were accepted.
func decodes(t *testing.T, b []byte) bool {
	t.Helper()
	f, e := event.Decode(b)
	l, is := unspell(b)
	want := api.ErrSpoilt
	if is {
		want = event.Check(l)
	}
	same(t, e, want, "Decode", b)
	if e != api.OK {
		same(t, len(f), 0, "Decode", b)
		return false
	}
	same(t, strings.Join(wanted(f), " "), toldAll(l), "Decode", b)
	back, e := event.Encode(f)
	same(t, e, api.OK, "P4.9: Encode", b)
	same(t, bytes.Equal(back, b), true, "P4.9: the bytes of the forest", b)
	return true
}

// P4.4: the examples of the chapter, and what it says of counts and strings.
func TestBytesExamples(t *testing.T) {
	for s, want := range map[string][]byte{
		"": {}, "a{a} -2": {1, 0, 1, 97, 0, 1, 1, 0, 2, 2, 3, 3, 1},
		"0": {3, 0, 1}, "1": {3, 2, 1}, "-1": {3, 1, 1}, "63": {3, 126, 1}, "-64": {3, 127, 1}, "64": {3, 128, 1, 1}, "-65": {3, 129, 1, 1}, "1/127": {3, 2, 127}, "1/128": {3, 2, 128, 1}, "1/16383": {3, 2, 255, 127}, "1/16384": {3, 2, 128, 128, 1}, "-1000000000/999999999": {3, 255, 167, 214, 185, 7, 255, 147, 235, 220, 3},
		`"" "a" a(a="")`: {4, 0, 0, 4, 0, 1, 97, 1, 2, 1, 2, 1, 2}, `b(c="b",d="c") "d"`: {1, 0, 1, 98, 2, 0, 1, 99, 1, 0, 1, 100, 2, 2, 4, 3},
	} {
		b, e := event.Encode(must(t, s))
		same(t, e, api.OK, "Encode", s)
		same(t, bytes.Equal(b, want), true, "Encode", s, b, want)
		f, e := event.Decode(want)
		same(t, e, api.OK, "Decode", s)
		same(t, forestText(f), s, "Decode")
	}
	for i, x := range []struct {
		b []byte
		e api.Errno
	}{
		{nil, api.OK}, {[]byte{1, 1, 0, 2}, api.ErrSpoilt}, {[]byte{1, 0, 1, 97, 0}, api.ErrState},
		{[]byte{0}, api.ErrSpoilt}, {[]byte{5}, api.ErrSpoilt}, {[]byte{255}, api.ErrSpoilt}, {[]byte{2}, api.ErrOrder}, {[]byte{2, 5}, api.ErrSpoilt}, {[]byte{1}, api.ErrSpoilt}, {[]byte{1, 0}, api.ErrSpoilt}, {[]byte{1, 0, 1}, api.ErrSpoilt}, {[]byte{1, 0, 1, 97}, api.ErrSpoilt}, {[]byte{1, 0, 1, 97, 1}, api.ErrSpoilt}, {[]byte{1, 0, 1, 97, 1, 1}, api.ErrSpoilt}, {[]byte{1, 0, 1, 97, 1, 2, 1, 2}, api.ErrSpoilt},
		{[]byte{4, 0, 128, 0}, api.ErrSpoilt}, {[]byte{4, 128, 0, 0}, api.ErrSpoilt}, {[]byte{4, 0, 129, 0, 97}, api.ErrSpoilt}, {[]byte{3, 0, 129, 0}, api.ErrSpoilt}, {[]byte{3, 0, 129, 128, 0}, api.ErrSpoilt}, {[]byte{3, 2, 129, 128, 1}, api.OK}, {[]byte{3, 0, 128, 1}, api.ErrForm}, {[]byte{3, 0, 129}, api.ErrSpoilt},
		{[]byte{3, 255, 255, 255, 255, 127, 1}, api.ErrRange}, {[]byte{3, 254, 255, 255, 255, 127, 1}, api.ErrRange}, {[]byte{3, 0, 255, 255, 255, 255, 127}, api.ErrRange}, {[]byte{3, 0, 255, 255, 255, 255, 255}, api.ErrSpoilt}, {[]byte{3, 0, 128, 128, 128, 128, 128, 1}, api.ErrSpoilt}, {[]byte{3, 128, 128, 128, 128, 16, 1}, api.ErrRange},
		{[]byte{4, 0, 1, 97, 4, 0, 1, 97}, api.ErrSpoilt}, {[]byte{4, 0, 0, 4, 0, 0}, api.ErrSpoilt}, {[]byte{4, 0, 1, 97, 4, 2}, api.ErrSpoilt}, {[]byte{4, 0, 255, 255, 255, 255, 127, 97}, api.ErrSpoilt}, {[]byte{1, 0, 1, 97, 255, 255, 255, 255, 127, 1, 1}, api.ErrSpoilt}, {[]byte{4, 255, 255, 255, 255, 127}, api.ErrSpoilt},
		{[]byte{1, 0, 0, 0, 2}, api.ErrName}, {[]byte{1, 0, 1, 97, 4, 1, 1, 1, 1, 1, 1, 1, 1, 2}, api.ErrMany}, {[]byte{1, 0, 1, 97, 1, 0, 1, 98}, api.ErrSpoilt}, {[]byte{1, 0, 1, 97, 0, 2, 2, 9}, api.ErrSpoilt}, {[]byte{4, 0, 1, 10}, api.ErrRange}, {[]byte{4, 0, 1, 10, 3}, api.ErrSpoilt}, {[]byte{3, 4, 2}, api.ErrForm}, {[]byte{3, 2, 0}, api.ErrRange},
	} {
		f, e := event.Decode(x.b)
		same(t, e, x.e, "Decode", i)
		same(t, len(f) > 0, x.e == api.OK && len(x.b) > 0, "Decode", i)
		decodes(t, x.b)
	}
}

// P4.4 and P4.5: the bytes of forests, and the forests of bytes. P4.9: no beginning of bytes is that of the same forest.
func TestBytes(t *testing.T) {
	for _, f := range samples(500) {
		s := forestText(f)
		b, e := event.Encode(f)
		same(t, e, api.OK, "Encode", s)
		same(t, bytes.Equal(b, spell(eventsOf(t, f))), true, "Encode", s, b)
		g, e := event.Decode(b)
		same(t, e, api.OK, "Decode", s)
		same(t, forestText(g), s, "Decode")
		if len(b) > 300 {
			continue
		}
		for i := range b {
			decodes(t, b[:i])
			g, e := event.Decode(b[:i])
			same(t, e != api.OK || forestText(g) != s, true, "P4.9: a beginning", i, s)
		}
	}
}

// P4.4 and P4.9: all short lists of some bytes.
func TestBytesAll(t *testing.T) {
	for _, x := range []struct {
		values []byte
		count  int
	}{{[]byte{0, 1, 2, 3, 4, 97, 128, 129, 255}, 5}, {[]byte{0, 1, 2, 4, 97}, 7}, {[]byte{3, 0, 2, 127, 128, 255}, 6}} {
		accepted := 0
		var add func(b []byte, left int)
		add = func(b []byte, left int) {
			if decodes(t, b) {
				accepted++
			}
			for i := 0; i < len(x.values) && left > 0; i++ {
				add(append(b[:len(b):len(b)], x.values[i]), left-1)
			}
		}
		add(nil, x.count)
		same(t, accepted > 10, true, "accepted", accepted)
	}
}

// P4.4 and P4.9: bytes of forests of which one was changed, taken out, or put in.
func TestBytesChanged(t *testing.T) {
	r := rand.New(rand.NewPCG(9, 9))
	for _, f := range samples(80) {
		b, _ := event.Encode(f)
		if len(b) > 200 {
			continue
		}
		for i := range b {
			for _, v := range []byte{0, 1, 2, 3, 4, 5, b[i] + 1, b[i] - 1, b[i] ^ 128, byte(r.IntN(256))} {
				decodes(t, slices.Concat(b[:i], []byte{v}, b[i+1:]))
				decodes(t, slices.Concat(b[:i], []byte{v}, b[i:]))
			}
			decodes(t, slices.Concat(b[:i], b[i+1:]))
		}
		decodes(t, slices.Concat(b, b))
		decodes(t, append(b, 2))
	}
}

// wideForest returns a forest with so many bytes.
func wideForest(count int) []api.Tree {
	var f []api.Tree
	w := &speller{}
	add := func(t api.Tree) {
		f = append(f, t)
		for _, x := range mustOf([]api.Tree{t}) {
			w.event(x)
		}
	}
	digits := func(i int) string { return string([]byte{byte('a' + i/26), byte('a' + i%26)}) }
	for i := 0; count-len(w.l) > 120; i++ {
		x := digits(i)
		t := elem("a")
		t.Attrs = []api.Attr{attr("attrb"+x, "bbbbbbbbbb"+x), attr("attrc"+x, "cccccccccc"+x), attr("attrd"+x, "dddddddddd"+x)}
		add(t)
	}
	for i := 0; count-len(w.l) > 27; i++ {
		add(text(digits(i))) // 5 bytes
	}
	add(text(strings.Repeat("x", count-len(w.l)-3)))
	return f
}

func mustOf(f []api.Tree) []api.Event {
	l, _ := event.Of(f)
	return l
}

// P4.4 and R7: the most bytes.
func TestBytesLimit(t *testing.T) {
	for _, extra := range []int{-1, 0, 1, 2, 1000} {
		f := wideForest(api.MaxDoc + extra)
		want, wantE, back := spell(mustOf(f)), api.OK, forestText(f)
		whole := want
		same(t, len(want), api.MaxDoc+extra, "the test's forest")
		if extra > 0 {
			want, wantE, back = nil, api.ErrLimit, ""
		}
		b, e := event.Encode(f)
		same(t, e, wantE, "Encode", extra)
		same(t, bytes.Equal(b, want), true, "Encode", extra)
		g, e := event.Decode(whole)
		same(t, e, wantE, "Decode", extra)
		same(t, forestText(g), back, "Decode", extra)
	}
	for _, count := range []int{api.MaxDoc, api.MaxDoc + 1} {
		for v, want := range map[byte]api.Errno{0: api.ErrSpoilt, 2: api.ErrOrder, 3: api.ErrSpoilt, 1: api.ErrSpoilt} {
			if count > api.MaxDoc {
				want = api.ErrLimit
			}
			f, e := event.Decode(bytes.Repeat([]byte{v}, count))
			same(t, e, want, "Decode", v, count)
			same(t, len(f), 0, "Decode", v, count)
		}
	}
	for count, want := range map[int]api.Errno{9990: api.ErrMany, 9997: api.ErrMany, 9998: api.ErrLimit} {
		b := append([]byte{1, 0, 1, 97}, binary.AppendUvarint(nil, uint64(count))...)
		b = append(b, bytes.Repeat([]byte{1, 1}, count)...)
		_, e := event.Decode(b)
		same(t, e, want, "many attributes", count)
	}
}

// P0.1: no goroutine goes on behind a call.
func TestJoined(t *testing.T) {
	before := runtime.NumGoroutine()
	for range 50 {
		event.Encode(wideForest(1000))
		event.Encode(wideForest(api.MaxDoc + 1000))
		event.Encode(row(api.MaxTrees + 1))
	}
	for range 100 {
		if runtime.NumGoroutine() <= before {
			return
		}
		time.Sleep(10 * time.Millisecond)
	}
	t.Errorf("%d goroutines, not %d", runtime.NumGoroutine(), before)
}
