package guard

import (
	"strings"

	"withy/api"
	"withy/num"
)

// token is a piece of a text.
type token interface {
	// guard reads the guard that begins with the token, whose rest the reader has.
	guard(r *reader) (api.Guard, error)
}

// word is letters and digits that begin with a letter.
type word string

// quoted is the bytes that a string stands for.
type quoted string

type figure api.Num

// mark is a byte that begins none of the others.
type mark byte

const (
	letters = "abcdefghijklmnopqrstuvwxyz"
	digits  = "0123456789"
)

// tokens returns the tokens of a text.
func tokens(s string) ([]token, error) {
	var l []token
	for s != "" {
		t, rest, err := cutToken(s)
		if err != nil {
			return nil, err
		}
		l = append(l, t)
		s = rest
	}
	return l, nil
}

// cutToken returns the first token of a text that is not empty, and the rest of the text.
func cutToken(s string) (t token, rest string, err error) {
	switch b := s[:1]; {
	case b == `"`:
		return cutString(s[1:])
	case strings.Contains(letters, b):
		front, rest := cutFront(s, letters+digits)
		return word(front), rest, nil
	case strings.Contains("-"+digits, b):
		return cutNumber(s)
	}
	return mark(s[0]), s[1:], nil
}

// cutFront returns the longest front of a text that has bytes of a set alone.
func cutFront(s, set string) (front, rest string) {
	rest = strings.TrimLeft(s, set)
	return s[:len(s)-len(rest)], rest
}

// cutNumber takes all bytes that can be in a number. There is no point among them, so that num.Parse takes just what num.Print writes.
func cutNumber(s string) (t token, rest string, err error) {
	front, rest := cutFront(s, "-/"+digits)
	n, e := num.Parse(front)
	if e != api.OK {
		return nil, "", fault{api.ErrForm}
	}
	return figure(n), rest, nil
}

// cutString returns the string of which the first quote is taken away.
func cutString(s string) (t token, rest string, err error) {
	var value []byte
	for i := 0; i < len(s); i++ {
		switch b := s[i]; {
		case b == '"':
			return quoted(value), s[i+1:], nil
		case b < ' ' || b > '~':
			return nil, "", fault{api.ErrForm}
		case b == '\\':
			i++
			if i == len(s) || s[i] != '"' && s[i] != '\\' {
				return nil, "", fault{api.ErrForm}
			}
		}
		value = append(value, s[i])
	}
	return nil, "", fault{api.ErrForm}
}
