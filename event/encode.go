package event

import "withy/api"

// What events are written as begins with one of these bytes.
const (
	codeOpen byte = 1 + iota
	codeClose
	codeNumber
	codeText
)

const (
	countBytes = 5 // bytes of a count
	countBits  = 7 // bits of it in each of them
	countMore  = 1 << countBits

	sendRoom = 128 // bytes that were sent and not yet received, so that the two sides seldom wait for each other
)

// Encode returns the bytes of a forest.
func Encode(f []api.Tree) ([]byte, api.Errno) {
	l, e := Of(f)
	if e != api.OK {
		return nil, e
	}
	sent := make(chan byte, sendRoom)
	w := &encoder{sent: sent, which: map[string]int{}}
	go w.events(l)
	var b []byte
	for c := range sent {
		b = append(b, c)
	}
	if len(b) > api.MaxDoc {
		return nil, api.ErrLimit
	}
	return b, api.OK
}

// encoder sends what it writes, byte by byte.
type encoder struct {
	sent  chan<- byte
	which map[string]int // which of the different strings each one is that was written
}

// events writes valid events, and ends.
func (w *encoder) events(l []api.Event) {
	defer close(w.sent)
	for _, x := range l {
		switch {
		case x.Kind == api.EvClose:
			w.bytes(codeClose)
		case x.Kind == api.EvOpen:
			w.element(x.Head)
		case x.Head.Kind == api.Number:
			w.number(x.Head.Num)
		default:
			w.bytes(codeText)
			w.string(x.Head.Text)
		}
	}
}

func (w *encoder) bytes(l ...byte) {
	for _, b := range l {
		w.sent <- b
	}
}

func (w *encoder) element(h api.Head) {
	w.bytes(codeOpen)
	w.string(h.Label)
	w.count(len(h.Attrs))
	for _, a := range h.Attrs {
		w.string(a.Name)
		w.string(a.Value)
	}
}

func (w *encoder) number(n api.Num) {
	w.bytes(codeNumber)
	w.count(fold(n.N))
	w.count(n.D)
}

func (w *encoder) string(s string) {
	if n, known := w.which[s]; known {
		w.count(n)
		return
	}
	w.which[s] = len(w.which) + 1
	w.count(0)
	w.count(len(s))
	w.bytes([]byte(s)...)
}

func (w *encoder) count(n int) { w.bytes(counted(n)...) }

// counted returns the bytes of a count.
func counted(n int) []byte {
	var b [countBytes]byte
	end := 0
	for ; n >= countMore; n >>= countBits {
		b[end] = byte(n%countMore + countMore)
		end++
	}
	b[end] = byte(n)
	end++
	return b[:end:end]
}

// fold returns the count that stands for a whole number: even ones for those not below 0, odd ones for the others.
func fold(n int) int {
	if n < 0 {
		return -1 - 2*n
	}
	return 2 * n
}

// unfold returns the number of which fold is the count.
func unfold(count int) int {
	if count%2 == 1 {
		return -(count + 1) / 2
	}
	return count / 2
}
