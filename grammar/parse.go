package grammar

import (
	"slices"
	"strings"

	"withy/api"
	"withy/guard"
	"withy/share"
)

// Parse returns the grammar of a text.
func Parse(s string) (api.Grammar, api.Errno) {
	if len(s) > api.MaxDoc {
		return api.Grammar{}, api.ErrLimit
	}
	r := &reader{rest: s, names: namesOf(s)}
	g, formed := r.read()
	switch {
	case !formed:
		return api.Grammar{}, api.ErrForm
	case r.isAbsent:
		return api.Grammar{}, api.ErrAbsent
	}
	if _, e := check(g, r.guardError); e != api.OK {
		return api.Grammar{}, e
	}
	return g, api.OK
}

// namesOf returns the indexes of definitions by their names, as far as a text has the form of one: no line feed is within an expression.
func namesOf(s string) map[string]int {
	names := map[string]int{}
	for i, line := range strings.Split(s, "\n") {
		name, _, _ := strings.Cut(line, ":")
		if _, is := names[name]; !is {
			names[name] = i
		}
	}
	return names
}

// reader is what is left of a text, the indexes of definitions, whether one that is named is absent, and the errors of the guards that were read, which have none of their fields.
type reader struct {
	rest     string
	names    map[string]int
	isAbsent bool
	guards   []api.Errno
}

// unexpected is the panic of a byte that cannot be where it is, or of one that is missing: it saves each step of reading from asking after the one before.
type unexpected struct{}

// read returns the grammar of a text, valid or not, and whether the text has the form of one.
func (r *reader) read() (g api.Grammar, formed bool) {
	defer func() {
		if recover() != nil {
			g, formed = api.Grammar{}, false
		}
	}()
	for r.rest != "" {
		name := r.name()
		r.expect(":")
		body := r.expression()
		r.expect("\n")
		g.Defs = append(g.Defs, api.Def{Name: name, Body: body})
	}
	return g, true
}

// guardError returns the error of the next guard that was read.
func (r *reader) guardError(api.Guard) api.Errno {
	e := r.guards[0]
	r.guards = r.guards[1:]
	return e
}

// token is a piece of a text.
type token interface {
	// expression reads the expression that begins with the token, whose rest the reader has.
	expression(r *reader) api.Re
}

// word is letters and digits that begin with a letter.
type word string

// bracket is the text of a guard in brackets.
type bracket string

// mark is a byte that begins none of the others.
type mark string

func (r *reader) expression() api.Re { return r.next().expression(r) }

func (w word) expression(r *reader) api.Re {
	return api.Re{Op: api.RRef, Def: r.definition(string(w))}
}

func (b bracket) expression(r *reader) api.Re {
	g, e := guard.Parse(string(b))
	if e == api.ErrForm {
		panic(unexpected{})
	}
	r.guards = append(r.guards, e)
	name := r.name()
	return api.Re{Op: api.RTree, Guard: g, Def: r.definition(name)}
}

func (m mark) expression(r *reader) api.Re {
	if m == "(" {
		return r.pair()
	}
	op := kindOf(m, 0, 1)
	re := api.Re{Op: op}
	for range share.UseOf(op).Subs {
		sub := r.expression()
		re.Subs = append(re.Subs, sub)
	}
	return re
}

// pair reads what is behind `(`.
func (r *reader) pair() api.Re {
	first := r.expression()
	op := kindOf(r.mark(), 2)
	second := r.expression()
	r.expect(")")
	return api.Re{Op: op, Subs: []api.Re{first, second}}
}

// kindOf returns the kind of expressions that has a mark, and as many Subs as one of these numbers says.
func kindOf(m mark, subs ...int) api.ReOp {
	for i, of := range marks {
		op := api.ReOp(i)
		if of == m && slices.Contains(subs, share.UseOf(op).Subs) {
			return op
		}
	}
	panic(unexpected{})
}

// definition returns the index of the definition with a name, or notes that there is none.
func (r *reader) definition(name string) int {
	def, is := r.names[name]
	r.isAbsent = r.isAbsent || !is
	return def
}

func (r *reader) name() string {
	switch t := r.next().(type) {
	case word:
		return string(t)
	default:
		panic(unexpected{})
	}
}

func (r *reader) mark() mark {
	switch t := r.next().(type) {
	case mark:
		return t
	default:
		panic(unexpected{})
	}
}

// expect takes the next mark, which has to be m.
func (r *reader) expect(m mark) {
	if r.mark() != m {
		panic(unexpected{})
	}
}

const (
	letters = "abcdefghijklmnopqrstuvwxyz"
	digits  = "0123456789"
)

// next takes the next token.
func (r *reader) next() token {
	switch {
	case r.rest == "":
		panic(unexpected{})
	case r.rest[0] == '[':
		s := r.take(bracketEnd(r.rest))
		return bracket(s[1 : len(s)-1])
	case strings.Contains(letters, r.rest[:1]):
		behind := strings.TrimLeft(r.rest, letters+digits)
		return word(r.take(len(r.rest) - len(behind)))
	}
	return mark(r.take(1))
}

// take takes so many bytes.
func (r *reader) take(count int) string {
	front := r.rest[:count]
	r.rest = r.rest[count:]
	return front
}

// bracketEnd returns where a bracket ends that a text begins with: a bracket within a string of the guard does not end it.
func bracketEnd(s string) int {
	isQuoted := false
	for i := 0; i < len(s); i++ {
		switch {
		case s[i] == '"':
			isQuoted = !isQuoted
		case s[i] == '\\' && isQuoted:
			i++
		case s[i] == ']' && !isQuoted:
			return i + 1
		}
	}
	panic(unexpected{})
}
