package rat

import (
	"strings"

	"sherd/api"
	"sherd/integer"
)

// Text returns the text of a.
func Text(a api.Rat) string {
	if len(a.Q.D) == 0 {
		return integer.Text(a.P)
	}
	return integer.Text(a.P) + "/" + integer.Text(a.Q)
}

// Parse returns the number with the text s.
func Parse(s string) (api.Rat, api.Errno) {
	if len(s) > api.MaxBytes {
		return api.Rat{}, api.ErrLimit
	}
	above, below, found := strings.Cut(s, "/")
	p, e := integer.Parse(above)
	if e != api.OK {
		return api.Rat{}, e
	}
	if !found {
		return api.Rat{P: p}, api.OK
	}
	q, e := integer.Parse(below)
	if a := (api.Rat{P: p, Q: q}); e == api.OK && len(q.D) > 0 && Valid(a) {
		return a, api.OK
	}
	return api.Rat{}, api.ErrForm
}

// Encode returns the encoding of a.
func Encode(a api.Rat) []byte {
	return append(integer.Encode(a.P), integer.Encode(a.Q)...)
}

// Decode returns the number whose encoding b begins with, and the length of the encoding.
func Decode(b []byte) (api.Rat, int, api.Errno) {
	p, above, e := integer.Decode(b)
	if e != api.OK {
		return api.Rat{}, 0, e
	}
	q, below, e := integer.Decode(b[above:])
	if e != api.OK {
		return api.Rat{}, 0, e
	}
	a := api.Rat{P: p, Q: q}
	if !Valid(a) {
		return api.Rat{}, 0, api.ErrForm
	}
	return a, above + below, api.OK
}
