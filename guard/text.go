package guard

import (
	"withy/api"
	"withy/tree"
)

// Print writes a guard.
func Print(g api.Guard) (string, api.Errno) {
	if e := Check(g); e != api.OK {
		return "", e
	}
	return text(g), api.OK
}

// text returns the text of a guard that has no error.
func text(g api.Guard) string {
	switch g.Op {
	case api.GAll:
		return "*"
	case api.GElem:
		return "<>"
	case api.GNumber:
		return "#"
	case api.GText:
		return "$"
	case api.GHas:
		return "@" + g.Name
	case api.GAttr:
		return "@" + g.Name + "=" + leaf(api.Head{Kind: api.Text, Text: g.Value})
	case api.GBelow:
		return "<" + leaf(named(g))
	case api.GWhole:
		return "%"
	case api.GStarts:
		return "^" + leaf(named(g))
	case api.GNot:
		return "!" + text(g.Subs[0])
	case api.GAnd:
		return "(" + text(g.Subs[0]) + "&" + text(g.Subs[1]) + ")"
	case api.GOr:
		return "(" + text(g.Subs[0]) + "|" + text(g.Subs[1]) + ")"
	}
	return leaf(named(g)) // a label, or a text
}

// leaf returns the text of a head that is valid.
func leaf(h api.Head) string {
	s, _ := tree.Print([]api.Tree{{Head: h}})
	return s
}
