package event

import (
	"slices"

	"withy/api"
	"withy/num"
)

// state is what a reader is at.
type state int

const (
	unmade    state = iota // New did not return it
	stopped                // it has an error, or the text has ended
	beginning              // nothing was taken
	waiting                // a tree has to come
	inLabel
	beforeName
	inName
	beforeValue // behind the = of an attribute
	inValue
	escapedValue // behind a backslash in it
	behindValue
	behindHead // of an element with attributes, or at the byte that ends its label
	inNumber
	inText
	escapedText // behind a backslash in it
	behindTree
	states // how many there are
)

// step is what a reader does with a byte in a state. If the byte only ends what was before it, it is left to the state that is next.
type step func(r *Reader, b byte) (left bool, e api.Errno)

// steps returns those of the states in which bytes are taken.
func steps() [states]step {
	return [states]step{
		beginning:    (*Reader).beginTree,
		waiting:      (*Reader).beginTree,
		inLabel:      (*Reader).label,
		beforeName:   (*Reader).beginName,
		inName:       (*Reader).attribute,
		beforeValue:  (*Reader).beginValue,
		inValue:      (*Reader).value,
		escapedValue: (*Reader).valueEscape,
		behindValue:  (*Reader).endValue,
		behindHead:   (*Reader).endHead,
		inNumber:     (*Reader).number,
		inText:       (*Reader).text,
		escapedText:  (*Reader).textEscape,
		behindTree:   (*Reader).endTree,
	}
}

// step goes on with a byte, or stops with the error that it brings.
func (r *Reader) step(b byte, does []step) api.Errno {
next:
	left, e := does[r.state](r, b)
	switch {
	case e != api.OK:
		return r.halt(e)
	case left:
		goto next
	}
	return api.OK
}

// enter goes on in a state.
func (r *Reader) enter(s state) (left bool, e api.Errno) {
	r.state = s
	return false, api.OK
}

// unexpected is for a byte that cannot come where it comes.
func unexpected() (left bool, e api.Errno) { return false, api.ErrForm }

// keep keeps a byte of what has not ended. All that a head can have is shorter than what is kept of something longer, so that the head has the error of the whole.
func (r *Reader) keep(b byte) {
	if len(r.word) <= api.MaxText {
		r.word += string([]byte{b})
	}
}

// keepIn keeps a byte, and goes on in a state.
func (r *Reader) keepIn(s state, b byte) (left bool, e api.Errno) {
	r.keep(b)
	return r.enter(s)
}

// cut returns what was kept, which has ended.
func (r *Reader) cut() string {
	w := r.word
	r.word = ""
	return w
}

func (r *Reader) beginTree(b byte) (left bool, e api.Errno) {
	switch {
	case isLetter(b):
		return r.keepIn(inLabel, b)
	case isDigit(b) || b == '-':
		return r.keepIn(inNumber, b)
	case b == '"':
		return r.enter(inText)
	}
	return unexpected()
}

func (r *Reader) label(b byte) (left bool, e api.Errno) {
	if isLetter(b) || isDigit(b) {
		return r.keepIn(inLabel, b)
	}
	r.head.Label = r.cut()
	if b == '(' {
		return r.enter(beforeName)
	}
	return true, r.beginElement()
}

func (r *Reader) beginName(b byte) (left bool, e api.Errno) {
	if isLetter(b) {
		return r.keepIn(inName, b)
	}
	return unexpected()
}

func (r *Reader) attribute(b byte) (left bool, e api.Errno) {
	switch {
	case isLetter(b) || isDigit(b):
		return r.keepIn(inName, b)
	case b == '=':
		r.name = r.cut()
		return r.enter(beforeValue)
	}
	return unexpected()
}

func (r *Reader) beginValue(b byte) (left bool, e api.Errno) {
	if b == '"' {
		return r.enter(inValue)
	}
	return unexpected()
}

func (r *Reader) value(b byte) (left bool, e api.Errno) {
	if b != '"' {
		return r.inString(b, inValue, escapedValue)
	}
	r.keepAttribute(api.Attr{Name: r.name, Value: r.cut()})
	return r.enter(behindValue)
}

// keepAttribute keeps an attribute, but not more of them than are too many. The list is a new one, because a copy of the reader can have the old one.
func (r *Reader) keepAttribute(a api.Attr) {
	if len(r.head.Attrs) <= api.MaxAttrs {
		r.head.Attrs = slices.Concat(r.head.Attrs, []api.Attr{a})
	}
}

func (r *Reader) valueEscape(b byte) (left bool, e api.Errno) { return r.escape(b, inValue) }

func (r *Reader) endValue(b byte) (left bool, e api.Errno) {
	switch b {
	case ',':
		return r.enter(beforeName)
	case ')':
		return false, r.beginElement()
	}
	return unexpected()
}

func (r *Reader) endHead(b byte) (left bool, e api.Errno) {
	if b == '{' {
		return r.enter(waiting)
	}
	return true, r.endElement()
}

func (r *Reader) number(b byte) (left bool, e api.Errno) {
	if isDigit(b) || b == '-' || b == '/' {
		return r.keepIn(inNumber, b)
	}
	n, e := num.Parse(r.cut()) // there is no point in it, so that this takes just what num.Print writes
	if e != api.OK {
		return unexpected()
	}
	return true, r.sendLeaf(api.Head{Kind: api.Number, Num: n})
}

func (r *Reader) text(b byte) (left bool, e api.Errno) {
	if b != '"' {
		return r.inString(b, inText, escapedText)
	}
	return false, r.sendLeaf(api.Head{Kind: api.Text, Text: r.cut()})
}

func (r *Reader) textEscape(b byte) (left bool, e api.Errno) { return r.escape(b, inText) }

// inString takes a byte of a string that does not end it.
func (r *Reader) inString(b byte, inside, escaped state) (left bool, e api.Errno) {
	switch {
	case b == '\\':
		return r.enter(escaped)
	case isPrintable(b):
		return r.keepIn(inside, b)
	}
	return unexpected()
}

// escape takes the byte behind a backslash.
func (r *Reader) escape(b byte, inside state) (left bool, e api.Errno) {
	if b == '"' || b == '\\' {
		return r.keepIn(inside, b)
	}
	return unexpected()
}

func (r *Reader) endTree(b byte) (left bool, e api.Errno) {
	switch {
	case b == ' ':
		return r.enter(waiting)
	case b == '}' && r.open > 0:
		return false, r.endElement()
	}
	return unexpected()
}

// beginElement sends the element whose head has ended.
func (r *Reader) beginElement() api.Errno {
	r.state = behindHead
	x := opening(r.head)
	r.head = api.Head{}
	return r.send(x)
}

// endElement ends the element that began last.
func (r *Reader) endElement() api.Errno {
	r.state = behindTree
	return r.send(closing())
}

// sendLeaf sends a number, or a text, that has ended.
func (r *Reader) sendLeaf(h api.Head) api.Errno {
	r.state = behindTree
	return r.send(leaf(h))
}

func isLetter(b byte) bool { return 'a' <= b && b <= 'z' }

func isDigit(b byte) bool { return '0' <= b && b <= '9' }

func isPrintable(b byte) bool { return ' ' <= b && b <= '~' }
