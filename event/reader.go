package event

import "withy/api"

// Reader takes the text of a forest in pieces. It keeps no more of it than the head that has not ended, and of that no more than shows what is wrong with it, in memory that no copy of the reader changes.
type Reader struct {
	state state
	stop  api.Errno // what it returns if it is stopped
	taken int
	begun
	head api.Head    // the head of the element that has not ended: its label, and the attributes up to the last one that has ended
	name string      // that of the attribute that has not ended
	word string      // what has not ended: a label, a name, a number, or what a string stands for
	sent []api.Event // the events of a call that goes on
}

// New returns a reader that has taken nothing.
func New() *Reader { return &Reader{state: beginning} }

// Feed takes more bytes, and returns the events that these bring.
func (r *Reader) Feed(b []byte) ([]api.Event, api.Errno) {
	if e := r.refusal(); e != api.OK {
		return nil, e
	}
	does := steps()
	for _, c := range b {
		if e := r.take(c, does[:]); e != api.OK {
			return nil, e
		}
	}
	return r.events(), api.OK
}

// Done ends the text, and returns the events that this brings.
func (r *Reader) Done() ([]api.Event, api.Errno) {
	if e := r.refusal(); e != api.OK {
		return nil, e
	}
	if e := r.finish(); e != api.OK {
		return nil, e
	}
	l := r.events()
	r.halt(api.ErrState)
	return l, api.OK
}

// Taken returns how many bytes were taken: those before the one at which the reader has its error, or all.
func (r *Reader) Taken() int {
	if r == nil {
		return 0
	}
	return r.taken
}

// Deep returns how many elements are open, by the events that were returned.
func (r *Reader) Deep() int {
	if r == nil {
		return 0
	}
	return r.open
}

// refusal returns the error of a reader that takes nothing, or OK.
func (r *Reader) refusal() api.Errno {
	switch {
	case r == nil || r.state == unmade:
		return api.ErrState
	case r.state == stopped:
		return r.stop
	}
	return api.OK
}

// take takes a byte, or returns the error that the reader has at it.
func (r *Reader) take(b byte, does []step) api.Errno {
	if r.taken == api.MaxDoc {
		return r.halt(api.ErrLimit)
	}
	if e := r.step(b, does); e != api.OK {
		return e
	}
	r.taken++
	return api.OK
}

// finish takes the end of the text: it ends what a blank ends, but no tree is waited for behind it.
func (r *Reader) finish() api.Errno {
	if r.state == beginning {
		return api.OK
	}
	does := steps()
	if e := r.step(' ', does[:]); e != api.OK {
		return e
	}
	if r.state != waiting || r.open > 0 {
		return r.halt(api.ErrForm)
	}
	return api.OK
}

// send is for an event that comes: it returns its error, or OK.
func (r *Reader) send(x api.Event) api.Errno {
	if e := r.add(x); e != api.OK {
		return e
	}
	r.sent = append(r.sent, x)
	return api.OK
}

// events returns those of a call that ends.
func (r *Reader) events() []api.Event {
	l := r.sent
	r.sent = nil
	return l
}

// halt lets the reader return an error from now on, and forget all but how far it came.
func (r *Reader) halt(e api.Errno) api.Errno {
	*r = Reader{state: stopped, stop: e, taken: r.taken}
	return e
}
