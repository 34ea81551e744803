package guard

import (
	"slices"
	"strings"

	"withy/api"
	"withy/num"
	"withy/share"
	"withy/tree"
)

// tooLarge is whether a guard has too many guards.
func tooLarge(g api.Guard) bool { return !share.Fits(share.Parts(g), api.MaxGuards) }

// kinds is how many kinds of guards there are.
const kinds = int(api.GOr) + 1

// shape is what the guards of a kind use.
type shape struct {
	subs            int
	name, value, at bool
}

var shapes = [kinds]shape{
	api.GAll:    {},
	api.GElem:   {},
	api.GNumber: {},
	api.GText:   {},
	api.GLabel:  {name: true},
	api.GHas:    {name: true},
	api.GAttr:   {name: true, value: true},
	api.GBelow:  {at: true},
	api.GWhole:  {},
	api.GIs:     {value: true},
	api.GStarts: {value: true},
	api.GNot:    {subs: 1},
	api.GAnd:    {subs: 2},
	api.GOr:     {subs: 2},
}

// checkAlone returns the error of a guard, but for those of its Subs.
func checkAlone(g api.Guard) api.Errno {
	if stray(g) {
		return api.ErrForm
	}
	if e := tree.CheckHead(named(g)); e != api.OK {
		return e
	}
	if g.At.N < -api.MaxAt || g.At.N > api.MaxAt || g.At.D > api.MaxAtD {
		return api.ErrRange
	}
	return api.OK
}

// stray is whether a guard is of no kind, or has not just what its kind uses.
func stray(g api.Guard) bool {
	if g.Op < 0 || int(g.Op) >= kinds {
		return true
	}
	s := shapes[g.Op]
	return len(g.Subs) != s.subs || !s.name && g.Name != "" || !s.value && g.Value != "" || !s.at && g.At != api.Num{}
}

// named returns a head that has what a guard names, and nothing else with an error: so it has the error of that.
func named(g api.Guard) api.Head {
	switch g.Op {
	case api.GLabel:
		return api.Head{Label: g.Name}
	case api.GHas, api.GAttr:
		return api.Head{Label: "a", Attrs: []api.Attr{{Name: g.Name, Value: g.Value}}}
	case api.GBelow:
		return api.Head{Kind: api.Number, Num: g.At}
	case api.GIs, api.GStarts:
		return api.Head{Kind: api.Text, Text: g.Value}
	}
	return api.Head{Label: "a"}
}

// checked is a guard that has no error, with what it does.
type checked struct {
	api.Guard
	does act
	subs []checked
}

// act is what the guards of a kind do: whether one of them accepts a valid head.
type act func(g checked, h api.Head) bool

func (g checked) accepts(h api.Head) bool { return g.does(g, h) }

// compile returns a guard that has no error, with what it does by a table of acts.
func compile(g api.Guard, table [kinds]act) checked {
	c := checked{Guard: g, does: table[g.Op]}
	for _, sub := range g.Subs {
		c.subs = append(c.subs, compile(sub, table))
	}
	return c
}

// acts are those of all kinds. They ask for the kind of a head where a head of another kind could have what they ask for.
func acts() [kinds]act {
	return [kinds]act{
		api.GAll:    func(g checked, h api.Head) bool { return true },
		api.GElem:   func(g checked, h api.Head) bool { return h.Kind == api.Elem },
		api.GNumber: func(g checked, h api.Head) bool { return h.Kind == api.Number },
		api.GText:   func(g checked, h api.Head) bool { return h.Kind == api.Text },
		api.GLabel:  func(g checked, h api.Head) bool { return h.Label == g.Name },
		api.GHas: func(g checked, h api.Head) bool {
			return slices.ContainsFunc(h.Attrs, func(a api.Attr) bool { return a.Name == g.Name })
		},
		api.GAttr: func(g checked, h api.Head) bool {
			return slices.Contains(h.Attrs, api.Attr{Name: g.Name, Value: g.Value})
		},
		api.GBelow: func(g checked, h api.Head) bool { return h.Kind == api.Number && compareNumbers(h.Num, g.At) < 0 },
		api.GWhole: func(g checked, h api.Head) bool {
			whole, _ := num.Whole(h.Num) // what a head has that is no number is not whole
			return whole
		},
		api.GIs:     func(g checked, h api.Head) bool { return h.Kind == api.Text && h.Text == g.Value },
		api.GStarts: func(g checked, h api.Head) bool { return h.Kind == api.Text && strings.HasPrefix(h.Text, g.Value) },
		api.GNot:    func(g checked, h api.Head) bool { return !g.subs[0].accepts(h) },
		api.GAnd:    func(g checked, h api.Head) bool { return g.subs[0].accepts(h) && g.subs[1].accepts(h) },
		api.GOr:     func(g checked, h api.Head) bool { return g.subs[0].accepts(h) || g.subs[1].accepts(h) },
	}
}

// compareNumbers compares valid numbers.
func compareNumbers(a, b api.Num) int {
	c, _ := num.Cmp(a, b)
	return c
}
