package integer

import (
	"strconv"
	"strings"

	"sherd/api"
	"sherd/wire"
)

const places = 9 // decimal places of a digit

// Text returns the text of x.
func Text(x api.Int) string {
	if len(x.D) == 0 {
		return "0"
	}
	b := make([]byte, 0, 1+places*len(x.D))
	if x.Neg {
		b = append(b, '-')
	}
	last := len(x.D) - 1
	b = strconv.AppendInt(b, int64(x.D[last]), 10)
	for i := range last {
		// Base puts a 1 before all places, so that leading zeros are written.
		b = append(b, strconv.Itoa(api.Base + x.D[last-1-i])[1:]...)
	}
	return string(b)
}

// Parse returns the integer with the text s.
func Parse(s string) (api.Int, api.Errno) {
	if len(s) > api.MaxBytes {
		return api.Int{}, api.ErrLimit
	}
	text, neg := strings.CutPrefix(s, "-")
	if !decimal(text) || neg && text == "0" {
		return api.Int{}, api.ErrForm
	}
	d := make([]int, 0, (len(text)+places-1)/places)
	for len(text) > 0 {
		at := max(0, len(text)-places)
		n, _ := strconv.Atoi(text[at:]) // no error is left: these are at most 9 decimal digits
		d = append(d, n)
		text = text[:at]
	}
	return made(neg, d), api.OK
}

// decimal reports whether s consists of decimal digits, of which the first one is 0 only if it is the only one.
func decimal(s string) bool {
	for i := range len(s) {
		if s[i] < '0' || s[i] > '9' {
			return false
		}
	}
	return s == "0" || s != "" && s[0] != '0'
}

// Encode returns the encoding of x.
func Encode(x api.Int) []byte {
	return wire.Ints(append([]int{Sign(x)}, x.D...))
}

// Decode returns the integer whose encoding b begins with, and the length of the encoding.
func Decode(b []byte) (api.Int, int, api.Errno) {
	l, used, e := wire.GetInts(b)
	if e != api.OK {
		return api.Int{}, 0, e
	}
	if len(l) == 0 {
		return api.Int{}, 0, api.ErrForm
	}
	x := api.Int{Neg: l[0] < 0, D: l[1:]}
	if !Valid(x) || Sign(x) != l[0] {
		return api.Int{}, 0, api.ErrForm
	}
	return made(x.Neg, copied(x.D, len(x.D))), used, api.OK
}
