package grammar

import (
	"withy/api"
	"withy/guard"
)

// Print returns the text of a grammar.
func Print(g api.Grammar) (string, api.Errno) {
	c, e := check(g, guard.Check)
	if e != api.OK {
		return "", e
	}
	s := ""
	for _, d := range c.Defs {
		s += d.Name + ":" + c.text(d.Body) + "\n"
	}
	if len(s) > api.MaxDoc {
		return "", api.ErrLimit
	}
	return s, api.OK
}

// text returns the text of an expression.
func (c checked) text(r api.Re) string {
	m := string(marks[r.Op])
	switch {
	case r.Op == api.RTree:
		g, _ := guard.Print(r.Guard) // the guard has no error
		return "[" + g + "]" + c.Defs[r.Def].Name
	case r.Op == api.RRef:
		return c.Defs[r.Def].Name
	case len(r.Subs) == 2:
		return "(" + c.text(r.Subs[0]) + m + c.text(r.Subs[1]) + ")"
	case len(r.Subs) == 1:
		return m + c.text(r.Subs[0])
	}
	return m
}
