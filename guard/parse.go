package guard

import (
	"errors"
	"strconv"

	"withy/api"
)

// Parse returns the guard of a text.
func Parse(s string) (api.Guard, api.Errno) {
	g, err := parse(s)
	var f fault
	if errors.As(err, &f) {
		return api.Guard{}, f.e
	}
	return g, api.OK
}

// fault is what is wrong with a text.
type fault struct{ e api.Errno }

func (f fault) Error() string { return "error " + strconv.Itoa(int(f.e)) }

func parse(s string) (api.Guard, error) {
	if len(s) > api.MaxDoc {
		return api.Guard{}, fault{api.ErrLimit}
	}
	l, err := tokens(s)
	if err != nil {
		return api.Guard{}, err
	}
	r := &reader{l}
	g, err := r.guard()
	if err != nil {
		return api.Guard{}, err
	}
	if len(r.rest) > 0 {
		return unexpected()
	}
	if e := Check(g); e != api.OK {
		return api.Guard{}, fault{e}
	}
	return g, nil
}

// reader is what is left of a text.
type reader struct{ rest []token }

// next takes the next token; behind the last one it is a mark that no guard has.
func (r *reader) next() token {
	if len(r.rest) == 0 {
		return mark(0)
	}
	t := r.rest[0]
	r.rest = r.rest[1:]
	return t
}

// accept takes the next token if it is the mark m.
func (r *reader) accept(m mark) bool {
	if len(r.rest) == 0 {
		return false
	}
	if t, is := r.rest[0].(mark); !is || t != m {
		return false
	}
	r.rest = r.rest[1:]
	return true
}

func (r *reader) guard() (api.Guard, error) { return r.next().guard(r) }

func unexpected() (api.Guard, error) { return api.Guard{}, fault{api.ErrForm} }

func (w word) guard(r *reader) (api.Guard, error) {
	return api.Guard{Op: api.GLabel, Name: string(w)}, nil
}

func (q quoted) guard(r *reader) (api.Guard, error) {
	return api.Guard{Op: api.GIs, Value: string(q)}, nil
}

func (n figure) guard(r *reader) (api.Guard, error) { return unexpected() }

func (m mark) guard(r *reader) (api.Guard, error) {
	switch m {
	case '*':
		return api.Guard{Op: api.GAll}, nil
	case '#':
		return api.Guard{Op: api.GNumber}, nil
	case '$':
		return api.Guard{Op: api.GText}, nil
	case '%':
		return api.Guard{Op: api.GWhole}, nil
	case '<':
		return r.below()
	case '@':
		return r.attribute()
	case '^':
		return r.starts()
	case '!':
		return r.not()
	case '(':
		return r.pair()
	}
	return unexpected()
}

// below reads what is behind `<`.
func (r *reader) below() (api.Guard, error) {
	switch t := r.next().(type) {
	case figure:
		return api.Guard{Op: api.GBelow, At: api.Num(t)}, nil
	case mark:
		if t == '>' {
			return api.Guard{Op: api.GElem}, nil
		}
	}
	return unexpected()
}

// attribute reads what is behind `@`.
func (r *reader) attribute() (api.Guard, error) {
	name, is := r.next().(word)
	if !is {
		return unexpected()
	}
	if !r.accept('=') {
		return api.Guard{Op: api.GHas, Name: string(name)}, nil
	}
	value, is := r.next().(quoted)
	if !is {
		return unexpected()
	}
	return api.Guard{Op: api.GAttr, Name: string(name), Value: string(value)}, nil
}

// starts reads what is behind `^`.
func (r *reader) starts() (api.Guard, error) {
	value, is := r.next().(quoted)
	if !is {
		return unexpected()
	}
	return api.Guard{Op: api.GStarts, Value: string(value)}, nil
}

// not reads what is behind `!`.
func (r *reader) not() (api.Guard, error) {
	g, err := r.guard()
	if err != nil {
		return api.Guard{}, err
	}
	return not(g), nil
}

// pair reads what is behind `(`.
func (r *reader) pair() (api.Guard, error) {
	first, err := r.guard()
	if err != nil {
		return api.Guard{}, err
	}
	op := api.GAnd
	if !r.accept('&') {
		op = api.GOr
		if !r.accept('|') {
			return unexpected()
		}
	}
	second, err := r.guard()
	if err != nil {
		return api.Guard{}, err
	}
	if !r.accept(')') {
		return unexpected()
	}
	return api.Guard{Op: op, Subs: []api.Guard{first, second}}, nil
}
