package auto_test

import (
	"fmt"
	"strings"
	"testing"

	"withy/api"
	"withy/auto"
)

// formula is a mix as a text.
func formula(m api.Mix) string {
	var subs []string
	for _, sub := range m.Subs {
		subs = append(subs, formula(sub))
	}
	switch m.Op {
	case api.MixIs:
		return fmt.Sprint(m.Def)
	case api.MixNot:
		return "!" + subs[0]
	}
	return "(" + strings.Join(subs, map[api.MixOp]string{api.MixAnd: "&", api.MixOr: "|"}[m.Op]) + ")"
}

// holds works a formula off from the inside: a definition is put in as 0 or 1, and what is known is rewritten until one is left.
func holds(formula string, yes []bool) bool {
	var s string
	for _, b := range formula {
		if b >= '0' && b <= '9' {
			b = map[bool]rune{false: 'f', true: 't'}[yes[b-'0']]
		}
		s += string(b)
	}
	rules := strings.NewReplacer("!t", "f", "!f", "t", "(t&t)", "t", "(t&f)", "f", "(f&t)", "f", "(f&f)", "f", "(t|t)", "t", "(t|f)", "t", "(f|t)", "t", "(f|f)", "f")
	for len(s) > 1 {
		s = rules.Replace(s)
	}
	return s == "t"
}

// P7.8 and P7.3: a mix is what its operations say; Mean keeps all else.
func TestMean(t *testing.T) {
	for seed := range uint64(300) {
		m := newMaker(seed)
		a := m.automaton(m.guards(), 1+m.IntN(5), 1+m.IntN(9))
		x := m.mix(1+m.IntN(24), len(a.Yes[0]))
		b, e := auto.Mean(a, x)
		want := clone(a)
		for s, yes := range a.Yes {
			want.Yes[s] = append(want.Yes[s], holds(formula(x), yes))
		}
		same(t, told(tables(b), e), tables(want), "Mean", formula(x), a)
		f := m.random(6)
		of, e := auto.Is(b, f, len(a.Yes[0]))
		var yes []bool
		for def := range a.Yes[0] {
			is, _ := auto.Is(a, f, def)
			yes = append(yes, is)
		}
		same(t, told(fmt.Sprint(of), e), fmt.Sprint(holds(formula(x), yes)), "Is", formula(x), text(f), a)
	}
	// all truths
	two := automaton(guards("<>"), nil, "00", "01", "10", "11")
	for _, x := range []struct {
		m    api.Mix
		want string
	}{{is(0), "0011"}, {is(1), "0101"}, {not(is(0)), "1100"}, {mix(api.MixAnd, is(0), is(1)), "0001"}, {mix(api.MixOr, is(0), is(1)), "0111"}, {mix(api.MixOr, not(is(0)), is(1)), "1101"}, {mix(api.MixAnd, is(0), not(is(1))), "0010"}, {mix(api.MixOr, is(0), mix(api.MixAnd, is(0), is(1))), "0011"}, {nots(23, is(1)), "1010"}, {nots(22, is(1)), "0101"}} {
		b, e := auto.Mean(two, x.m)
		got := ""
		for _, yes := range b.Yes {
			got += map[bool]string{false: "0", true: "1"}[yes[2]]
		}
		same(t, told(got, e), x.want, "Mean", formula(x.m))
	}
}

// manySubs is a mix with so many mixes, side by side as far as they can be.
func manySubs(count int) api.Mix {
	switch {
	case count > 2:
		return mix(api.MixOr, is(0), manySubs(count-2))
	case count == 2:
		return not(is(0))
	}
	return is(0)
}

// The errors of Mean, in their order.
func TestMeanErrors(t *testing.T) {
	full := clone(onlyA())
	for s := range full.Yes {
		full.Yes[s] = make([]bool, 12)
	}
	odd, bad := api.Mix{Op: 4}, is(12)
	for i, x := range []struct {
		m api.Mix
		e api.Errno
	}{
		{is(0), api.OK}, {nots(23, is(0)), api.OK}, {nots(24, is(0)), api.ErrMany}, {manySubs(24), api.OK}, {manySubs(23), api.OK}, {manySubs(25), api.ErrMany}, {nots(24, odd), api.ErrMany}, {endless(), api.ErrMany}, {api.Mix{Op: 9, Subs: make([]api.Mix, 1000000)}, api.ErrMany}, {api.Mix{Op: 9, Subs: endless().Subs}, api.ErrMany}, {api.Mix{Subs: make([]api.Mix, 24)}, api.ErrMany},
		{odd, api.ErrForm}, {api.Mix{Op: -1}, api.ErrForm}, {api.Mix{Op: 1 << 62}, api.ErrForm}, {api.Mix{Op: -1 << 63, Subs: []api.Mix{{}}}, api.ErrForm}, {api.Mix{Subs: make([]api.Mix, 23)}, api.ErrForm},
		{mix(api.MixIs, is(0)), api.ErrForm}, {mix(api.MixNot), api.ErrForm}, {mix(api.MixNot, is(0), is(0)), api.ErrForm}, {mix(api.MixAnd, is(0)), api.ErrForm}, {mix(api.MixAnd), api.ErrForm}, {mix(api.MixAnd, is(0), is(0), is(0)), api.ErrForm}, {mix(api.MixOr, is(0)), api.ErrForm}, {mix(api.MixOr, is(0), is(0), is(0)), api.ErrForm},
		{api.Mix{Op: api.MixNot, Def: 1, Subs: []api.Mix{is(0)}}, api.ErrForm}, {api.Mix{Op: api.MixAnd, Def: -1, Subs: []api.Mix{is(0), is(0)}}, api.ErrForm}, {api.Mix{Op: api.MixOr, Def: 1, Subs: []api.Mix{is(0), is(0)}}, api.ErrForm}, {mix(api.MixIs, odd), api.ErrForm}, {api.Mix{Def: 9, Subs: []api.Mix{{}}}, api.ErrForm},
		{bad, api.ErrAbsent}, {is(-1), api.ErrAbsent}, {is(1 << 62), api.ErrAbsent}, {is(-1 << 63), api.ErrAbsent}, {not(bad), api.ErrAbsent}, {mix(api.MixOr, is(0), bad), api.ErrAbsent},
		{mix(api.MixAnd, bad, odd), api.ErrAbsent}, {mix(api.MixAnd, odd, bad), api.ErrForm}, {mix(api.MixAnd, not(bad), odd), api.ErrAbsent}, {mix(api.MixOr, not(not(odd)), bad), api.ErrForm}, {mix(api.MixOr, mix(api.MixAnd, is(0), odd), bad), api.ErrForm}, {mix(4, bad), api.ErrForm},
	} {
		b, e := auto.Mean(onlyA(), x.m)
		same(t, e, x.e, "Mean", i)
		same(t, e == api.OK || tables(b) == "", true, "Mean with an error", i)
		// no definition more has a place; but that is said last
		if x.e == api.OK {
			x.e = api.ErrMany
		}
		b, e = auto.Mean(full, x.m)
		same(t, told(tables(b), e), failed(x.e), "Mean of twelve definitions", i)
		b, e = auto.Mean(api.Auto{}, x.m)
		same(t, told(tables(b), e), failed(api.ErrForm), "Mean of no automaton", i)
	}
	for i, x := range wrongAutomata() {
		b, e := auto.Mean(x.a, endless())
		same(t, told(tables(b), e), failed(x.e), "Mean of a wrong one", i)
	}
	b, e := auto.Mean(blank(guards("<>"), 1), is(0))
	same(t, told(tables(b), e), failed(api.ErrAbsent), "Mean without definitions")
	eleven := clone(full)
	for s := range eleven.Yes {
		eleven.Yes[s] = eleven.Yes[s][:11]
	}
	b, e = auto.Mean(eleven, not(is(10)))
	same(t, e, api.OK, "Mean of eleven definitions")
	same(t, plain(b.Yes[2]), plain(bools("000000000001")), "Mean of eleven definitions")
	b, e = auto.Mean(eleven, is(11))
	same(t, told(tables(b), e), failed(api.ErrAbsent), "Mean of itself")
}
