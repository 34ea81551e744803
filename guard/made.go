package guard

import (
	"slices"

	"withy/api"
	"withy/share"
)

// Cell returns the guard that accepts what is in a region of a list of guards.
func Cell(l []api.Guard, region int) (api.Guard, api.Errno) {
	k, e := newList(l...)
	if e != api.OK {
		return api.Guard{}, e
	}
	regions := k.survey().inOrder()
	if region < 0 || region >= len(regions) {
		return api.Guard{}, api.ErrAbsent
	}
	if len(l) == 0 {
		return api.Guard{}, api.ErrEmpty
	}
	cell := accepting(l[0], regions[region][0])
	for i, g := range l[1:] {
		last := accepting(g, regions[region][i+1])
		cell = api.Guard{Op: api.GAnd, Subs: []api.Guard{cell, last}}
	}
	if tooLarge(cell) {
		return api.Guard{}, api.ErrLimit
	}
	return cell, api.OK
}

// accepting returns a guard that accepts what g does, or, if that is not wanted, what g does not.
func accepting(g api.Guard, wanted bool) api.Guard {
	if wanted {
		return share.CloneGuard(g)
	}
	return not(share.CloneGuard(g))
}

func not(g api.Guard) api.Guard { return api.Guard{Op: api.GNot, Subs: []api.Guard{g}} }

// Simple returns a simple guard that accepts the same heads.
func Simple(g api.Guard) (api.Guard, api.Errno) {
	k, e := newList(g)
	if e != api.OK {
		return api.Guard{}, e
	}
	var heads []api.Head
	for _, kind := range k.candidates() {
		heads = slices.AppendSeq(heads, kind)
	}
	return simple(k.guards[0], heads).Guard, api.OK
}

// judged is a guard, and which heads of a list it accepts. The candidates of a guard are enough to tell what is so of all heads for it, and for all guards in it.
type judged struct {
	api.Guard
	accepts []bool
}

// entails is whether other accepts each head that g accepts.
func (g judged) entails(other judged) bool {
	for i, is := range g.accepts {
		if is && !other.accepts[i] {
			return false
		}
	}
	return true
}

func simple(g checked, heads []api.Head) judged {
	bare := g.Guard
	bare.Subs = nil
	var subs []judged
	for _, sub := range g.subs {
		s := simple(sub, heads)
		subs = append(subs, s)
		bare.Subs = append(bare.Subs, s.Guard)
	}
	var accepts []bool
	for _, h := range heads {
		accepts = append(accepts, g.accepts(h))
	}
	return judged{shorter(judged{bare, accepts}, subs), accepts}
}

// shorter returns the first of the shorter forms that a guard has whose Subs are simple, or it as it is.
func shorter(g judged, subs []judged) api.Guard {
	switch {
	case !slices.Contains(g.accepts, true):
		return not(api.Guard{Op: api.GAll})
	case !slices.Contains(g.accepts, false):
		return api.Guard{Op: api.GAll}
	case g.Op == api.GNot && subs[0].Op == api.GNot:
		return subs[0].Subs[0]
	case g.Op == api.GAnd && subs[0].entails(subs[1]):
		return subs[0].Guard
	case g.Op == api.GAnd && subs[1].entails(subs[0]):
		return subs[1].Guard
	case g.Op == api.GOr && subs[0].entails(subs[1]):
		return subs[1].Guard
	case g.Op == api.GOr && subs[1].entails(subs[0]):
		return subs[0].Guard
	}
	return g.Guard
}
