package tree

import (
	"strings"
	"unicode/utf8"

	"withy/api"
	"withy/num"
)

// Print returns the text of a forest.
func Print(f []api.Tree) (string, api.Errno) {
	if e := Check(f); e != api.OK {
		return "", e
	}
	s := written(f)
	if len(s) > api.MaxDoc {
		return "", api.ErrLimit
	}
	return s, api.OK
}

// Digest returns the digest of a forest.
func Digest(f []api.Tree) (int, api.Errno) {
	if e := Check(f); e != api.OK {
		return 0, e
	}
	digest := 0
	for _, b := range []byte(written(f)) {
		digest = (digest*api.DigestWeight + int(b) + 1) % api.DigestPrime
	}
	return digest, api.OK
}

// written returns the text of a valid forest, however long it is.
func written(f []api.Tree) string {
	w := &writer{escaped: escaped()}
	w.forest(f)
	return w.text.String()
}

// escaped tells which bytes of a string have a backslash before them.
func escaped() [utf8.RuneSelf]bool {
	return [utf8.RuneSelf]bool{'"': true, '\\': true}
}

type writer struct {
	text    strings.Builder
	escaped [utf8.RuneSelf]bool
}

func (w *writer) forest(f []api.Tree) {
	for i, t := range f {
		if i > 0 {
			w.text.WriteByte(' ')
		}
		w.tree(t)
	}
}

func (w *writer) tree(t api.Tree) {
	switch t.Kind {
	case api.Number:
		s, _ := num.Print(t.Num) // the number is valid
		w.text.WriteString(s)
	case api.Text:
		w.quoted(t.Text)
	default:
		w.element(t)
	}
}

func (w *writer) element(t api.Tree) {
	w.text.WriteString(t.Label)
	mark := byte('(')
	for _, a := range t.Attrs {
		w.text.WriteByte(mark)
		w.text.WriteString(a.Name)
		w.text.WriteByte('=')
		w.quoted(a.Value)
		mark = ','
	}
	if len(t.Attrs) > 0 {
		w.text.WriteByte(')')
	}
	if len(t.Kids) > 0 {
		w.text.WriteByte('{')
		w.forest(t.Kids)
		w.text.WriteByte('}')
	}
}

// quoted writes a string of printable bytes, each of which is a rune.
func (w *writer) quoted(s string) {
	w.text.WriteByte('"')
	for _, r := range s {
		if w.escaped[r] {
			w.text.WriteByte('\\')
		}
		w.text.WriteRune(r)
	}
	w.text.WriteByte('"')
}
