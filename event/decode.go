package event

import "withy/api"

// Decode returns the forest of which the bytes are.
func Decode(b []byte) ([]api.Tree, api.Errno) {
	if len(b) > api.MaxDoc {
		return nil, api.ErrLimit
	}
	l, whole := decoded(b)
	if !whole {
		return nil, api.ErrSpoilt
	}
	return Trees(l)
}

// decoded returns the events of which the bytes are, valid or not, and whether they are of events up to their end.
func decoded(b []byte) (l []api.Event, whole bool) {
	defer func() {
		if recover() != nil {
			l, whole = nil, false
		}
	}()
	d := &decoder{rest: b, known: map[string]bool{}}
	for len(d.rest) > 0 {
		x := d.event()
		l = append(l, x)
	}
	return l, true
}

// spoilt is the panic of bytes that were not written as they are: it saves each step of reading from asking after the one before.
type spoilt struct{}

// decoder is what is left of bytes, and the different strings that came, of which none comes as a new one again.
type decoder struct {
	rest  []byte
	came  []string
	known map[string]bool
}

func (d *decoder) event() api.Event {
	switch d.next() {
	case codeOpen:
		return opening(d.element())
	case codeClose:
		return closing()
	case codeNumber:
		return leaf(api.Head{Kind: api.Number, Num: d.number()})
	case codeText:
		return leaf(api.Head{Kind: api.Text, Text: d.string()})
	}
	panic(spoilt{})
}

func (d *decoder) element() api.Head {
	h := api.Head{Label: d.string()}
	for range d.count() {
		name := d.string()
		value := d.string()
		h.Attrs = append(h.Attrs, api.Attr{Name: name, Value: value})
	}
	return h
}

func (d *decoder) number() api.Num {
	n := unfold(d.count())
	return api.Num{N: n, D: d.count()}
}

func (d *decoder) string() string {
	switch which := d.count(); {
	case which > len(d.came):
		panic(spoilt{})
	case which > 0:
		return d.came[which-1]
	}
	s := string(d.cut(d.count()))
	if d.known[s] {
		panic(spoilt{})
	}
	d.known[s] = true
	d.came = append(d.came, s)
	return s
}

func (d *decoder) count() int {
	n := 0
	for i := range countBytes {
		b := d.next()
		n += int(b%countMore) << (i * countBits)
		switch {
		case b >= countMore:
			continue
		case b == 0 && i > 0:
			panic(spoilt{}) // the count is written without it
		}
		return n
	}
	panic(spoilt{})
}

func (d *decoder) next() byte { return d.cut(1)[0] }

// cut takes so many of the bytes that are left.
func (d *decoder) cut(count int) []byte {
	if count > len(d.rest) {
		panic(spoilt{})
	}
	front := d.rest[:count]
	d.rest = d.rest[count:]
	return front
}
