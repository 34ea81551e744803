package auto

import (
	"withy/api"
	"withy/share"
)

// subsOf is how many Subs the mixes of a kind use.
var subsOf = [...]int{api.MixIs: 0, api.MixNot: 1, api.MixAnd: 2, api.MixOr: 2}

// checkMix returns the error of a mix of an automaton with so many definitions, or OK.
func checkMix(m api.Mix, defs int) api.Errno {
	parts := share.Nested(m, func(m api.Mix) []api.Mix { return m.Subs })
	if !share.Fits(parts, api.MaxGuards) {
		return api.ErrMany
	}
	for part := range parts {
		switch {
		case part.Op < 0 || int(part.Op) >= len(subsOf) || len(part.Subs) != subsOf[part.Op]:
			return api.ErrForm
		case part.Op != api.MixIs && part.Def != 0:
			return api.ErrForm
		case part.Op == api.MixIs && !share.AreIndexes(defs, part.Def):
			return api.ErrAbsent
		}
	}
	return api.OK
}

// set is what a mix does: it tells whether forests that are of just these definitions are of it.
type set interface{ has(yes []bool) bool }

type (
	isOf   struct{ def int }
	notOf  struct{ sub set }
	bothOf struct{ one, two set }
	oneOf  struct{ one, two set }
)

func (s isOf) has(yes []bool) bool   { return yes[s.def] }
func (s notOf) has(yes []bool) bool  { return !s.sub.has(yes) }
func (s bothOf) has(yes []bool) bool { return s.one.has(yes) && s.two.has(yes) }
func (s oneOf) has(yes []bool) bool  { return s.one.has(yes) || s.two.has(yes) }

// newSet returns what a mix without an error does.
func newSet(m api.Mix) set {
	switch m.Op {
	case api.MixNot:
		return notOf{newSet(m.Subs[0])}
	case api.MixAnd:
		return bothOf{newSet(m.Subs[0]), newSet(m.Subs[1])}
	case api.MixOr:
		return oneOf{newSet(m.Subs[0]), newSet(m.Subs[1])}
	}
	return isOf{m.Def}
}
