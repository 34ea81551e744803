package event_test

import (
	"math/big"
	"regexp"
	"strings"

	"withy/api"
	"withy/tree"
)

const (
	wordForm   = `[a-z][a-z0-9]*`
	insideForm = `(?:\\["\\]|[ !#-\[\]-~])*`
	attrForm   = wordForm + `="` + insideForm + `"`
)

var (
	labelAt    = longest(`^` + wordForm)
	headAt     = longest(`^` + wordForm + `\(` + attrForm + `(?:,` + attrForm + `)*\)`)
	partHeadAt = longest(`^` + wordForm + `(?:\((?:` + attrForm + `,)*(?:` + wordForm + `(?:=(?:"` + insideForm + `(?:\\|")?)?)?)?)?`)
	numberAt   = longest(`^[-0-9][-/0-9]*`)
	stringAt   = longest(`^"` + insideForm + `"`)
	partTextAt = longest(`^"` + insideForm + `\\?`)
	attrsIn    = regexp.MustCompile(`(` + wordForm + `)="(` + insideForm + `)"`)
	escapesIn  = regexp.MustCompile(`\\(.)`)
	writtenAs  = regexp.MustCompile(`^(?:0|-?[1-9][0-9]*)(?:/[1-9][0-9]*)?$`)
)

func longest(form string) *regexp.Regexp {
	r := regexp.MustCompile(form)
	r.Longest()
	return r
}

// timed is an event, and how many bytes were taken when it comes. At the end of the text that is one more than it has.
type timed struct {
	at   int
	told string
}

// reading is what a reader has to do with a text, as it is found when the whole text is at hand: the events, and the error e that it has at the byte with the index stop, or at the end of the text, if that is stop.
type reading struct {
	text  string
	at    int
	trees int
	open  int
	came  []timed
	stop  int
	e     api.Errno
}

type halt struct{}

func readingOf(s string) *reading {
	r := &reading{text: s}
	r.try()
	if len(s) > api.MaxDoc && (r.e == api.OK || r.stop >= api.MaxDoc) {
		r.stop, r.e = api.MaxDoc, api.ErrLimit
	}
	return r
}

func (r *reading) try() {
	defer func() {
		if x := recover(); x != nil && x != (halt{}) {
			panic(x)
		}
	}()
	if r.text == "" {
		return
	}
	r.forest()
	if r.at < len(r.text) {
		r.halt(r.at, api.ErrForm)
	}
}

func (r *reading) halt(stop int, e api.Errno) {
	r.stop, r.e = stop, e
	panic(halt{})
}

func (r *reading) rest() string { return r.text[r.at:] }

func (r *reading) skip(mark string) bool {
	if !strings.HasPrefix(r.rest(), mark) {
		return false
	}
	r.at += len(mark)
	return true
}

func (r *reading) forest() {
	r.tree()
	for r.skip(" ") {
		r.tree()
	}
}

func (r *reading) tree() {
	rest := r.rest()
	if m := headAt.FindString(rest); m != "" {
		r.skip(m)
		r.element(r.at, m)
	} else if m := partHeadAt.FindString(rest); strings.Contains(m, "(") {
		r.halt(r.at+len(m), api.ErrForm)
	} else if m := labelAt.FindString(rest); m != "" {
		r.skip(m)
		r.element(r.at+1, m)
	} else if m := numberAt.FindString(rest); m != "" {
		r.skip(m)
		r.number(m)
	} else if m := stringAt.FindString(rest); m != "" {
		r.skip(m)
		r.begin(r.at, ".", api.Head{Kind: api.Text, Text: escapesIn.ReplaceAllString(m[1:len(m)-1], "$1")})
	} else {
		r.halt(r.at+len(partTextAt.FindString(rest)), api.ErrForm)
	}
}

// begin is for a head that ends at the byte that is taken as that one.
func (r *reading) begin(at int, mark string, h api.Head) {
	if e := tree.CheckHead(h); e != api.OK {
		r.halt(at-1, e)
	}
	r.trees++
	if r.trees > api.MaxTrees {
		r.halt(at-1, api.ErrMany)
	}
	if r.open >= api.MaxDeep {
		r.halt(at-1, api.ErrLimit)
	}
	r.came = append(r.came, timed{at, mark + headText(h)})
}

func (r *reading) number(s string) {
	if !isWritten(s) {
		r.halt(r.at, api.ErrForm)
	}
	n, _ := new(big.Rat).SetString(s)
	r.begin(r.at+1, ".", number(int(n.Num().Int64()), int(n.Denom().Int64())).Head)
}

func (r *reading) element(at int, s string) {
	label, attrs, _ := strings.Cut(s, "(")
	h := head(label)
	for _, a := range attrsIn.FindAllStringSubmatch(attrs, -1) {
		h.Attrs = append(h.Attrs, attr(a[1], escapesIn.ReplaceAllString(a[2], "$1")))
	}
	r.begin(at, "<", h)
	if !r.skip("{") {
		r.came = append(r.came, timed{r.at + 1, ">"})
		return
	}
	r.open++
	r.forest()
	if !r.skip("}") {
		r.halt(r.at, api.ErrForm)
	}
	r.open--
	r.came = append(r.came, timed{r.at, ">"})
}

// isWritten tells whether a text is what num.Print writes.
func isWritten(s string) bool {
	if !writtenAs.MatchString(s) {
		return false
	}
	r, _ := new(big.Rat).SetString(s)
	top := big.NewInt(api.MaxNum)
	return strings.TrimSuffix(r.String(), "/1") == s && new(big.Int).Abs(r.Num()).Cmp(top) <= 0 && r.Denom().Cmp(top) <= 0
}

// between are the events that come while the bytes behind `from`, up to `to`, are taken.
func (r *reading) between(from, to int) string {
	var l []string
	for _, x := range r.came {
		if from < x.at && x.at <= to {
			l = append(l, x.told)
		}
	}
	return strings.Join(l, " ")
}
