package tree

import (
	"strings"

	"withy/api"
	"withy/num"
)

// Parse returns the forest of a text.
func Parse(s string) ([]api.Tree, api.Errno) {
	if len(s) > api.MaxDoc {
		return nil, api.ErrLimit
	}
	f, formed := read(s)
	if !formed {
		return nil, api.ErrForm
	}
	if e := Check(f); e != api.OK {
		return nil, e
	}
	return f, api.OK
}

// read returns the forest of a text, valid or not, and whether the text has the form of one.
func read(s string) (f []api.Tree, formed bool) {
	defer func() {
		if recover() != nil {
			f, formed = nil, false
		}
	}()
	if s == "" {
		return nil, true
	}
	r := &reader{rest: s}
	f = r.forest()
	if r.rest != "" {
		panic(unexpected{})
	}
	return f, true
}

// unexpected is the panic of a byte that cannot be where it is, or of one that is missing: it saves each step of reading from asking after the one before.
type unexpected struct{}

// reader is what is left of a text.
type reader struct{ rest string }

// begin is what a tree begins with: a word, a figure, or a string.
type begin interface{ head() api.Head }

type word string

type figure api.Num

type quoted string

func (w word) head() api.Head { return api.Head{Kind: api.Elem, Label: string(w)} }

func (n figure) head() api.Head { return api.Head{Kind: api.Number, Num: api.Num(n)} }

func (q quoted) head() api.Head { return api.Head{Kind: api.Text, Text: string(q)} }

// forest reads trees, of which there is one at least.
func (r *reader) forest() []api.Tree {
	f := []api.Tree{r.tree()}
	for r.accept(' ') {
		t := r.tree()
		f = append(f, t)
	}
	return f
}

func (r *reader) tree() api.Tree {
	b := r.begin()
	t := api.Tree{Head: b.head()}
	switch b.(type) {
	case figure, quoted:
		return t // neither attributes nor kids can follow
	}
	if r.accept('(') {
		t.Attrs = r.attributes()
		r.expect(')')
	}
	if r.accept('{') {
		t.Kids = r.forest()
		r.expect('}')
	}
	return t
}

func (r *reader) begin() begin {
	switch b := r.look(); {
	case b == '"':
		return r.quoted()
	case b == '-' || isDigit(b):
		return r.figure()
	}
	return r.word()
}

func (r *reader) attributes() []api.Attr {
	l := []api.Attr{r.attribute()}
	for r.accept(',') {
		a := r.attribute()
		l = append(l, a)
	}
	return l
}

func (r *reader) attribute() api.Attr {
	name := r.word()
	r.expect('=')
	value := r.quoted()
	return api.Attr{Name: string(name), Value: string(value)}
}

func (r *reader) word() word {
	w := wordAtFront(r.rest)
	if w == "" {
		panic(unexpected{})
	}
	r.rest = r.rest[len(w):]
	return word(w)
}

// figure reads all bytes that can be in a number. There is no point among them, so that num.Parse takes just what num.Print writes.
func (r *reader) figure() figure {
	end := strings.IndexFunc(r.rest, func(c rune) bool { return !strings.ContainsRune("-/0123456789", c) })
	if end < 0 {
		end = len(r.rest)
	}
	n, e := num.Parse(r.rest[:end])
	if e != api.OK {
		panic(unexpected{})
	}
	r.rest = r.rest[end:]
	return figure(n)
}

func (r *reader) quoted() quoted {
	r.expect('"')
	var s []byte
	for !r.accept('"') {
		isEscaped := r.accept('\\')
		b := r.look()
		if !isPrintable(b) || isEscaped && !escaped()[b] {
			panic(unexpected{})
		}
		s = append(s, b)
		r.expect(b)
	}
	return quoted(s)
}

// look returns the next byte, which is not taken.
func (r *reader) look() byte {
	if r.rest == "" {
		panic(unexpected{})
	}
	return r.rest[0]
}

// accept takes the next byte if it is b.
func (r *reader) accept(b byte) bool {
	if r.rest == "" || r.rest[0] != b {
		return false
	}
	r.rest = r.rest[1:]
	return true
}

// expect takes the next byte, which has to be b.
func (r *reader) expect(b byte) {
	if !r.accept(b) {
		panic(unexpected{})
	}
}
