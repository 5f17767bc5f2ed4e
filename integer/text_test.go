package integer_test

import (
	"math/big"
	"math/rand/v2"
	"regexp"
	"strconv"
	"strings"
	"testing"

	"sherd/api"
	"sherd/integer"
)

// proper are the texts of integers.
var proper = regexp.MustCompile(`\A(0|-?[1-9][0-9]*)\z`)

// checkParse compares what Parse returns for any text with the wording of P3.6.
func checkParse(t *testing.T, s string) {
	t.Helper()
	x, e := integer.Parse(s)
	want := api.OK
	switch {
	case len(s) > 65536:
		want = api.ErrLimit
	case !proper.MatchString(s):
		want = api.ErrForm
	}
	if e != want {
		t.Fatalf("P3.6: Parse(%q): the error is %d, not %d", show(s), e, want)
	}
	if e != api.OK {
		if !same(x, api.Int{}) {
			t.Fatalf("P3.6: Parse(%q) returns %s with an error", show(s), show(x))
		}
		return
	}
	v, _ := new(big.Int).SetString(s, 10)
	check(t, "P3.6", x, v, "Parse", s)
	if back := integer.Text(x); back != s {
		t.Fatalf("P3.10: Text of Parse(%q) is %q", show(s), show(back))
	}
}

// checkText compares a text with the model, and parses it.
func checkText(t *testing.T, v *big.Int) {
	t.Helper()
	s := integer.Text(of(v))
	if s != v.String() {
		t.Fatalf("P3.6: the text of %s is %q", show(v), show(s))
	}
	if len(s) <= api.MaxBytes {
		x, e := integer.Parse(s)
		if !same(x, of(v)) || e != api.OK {
			t.Fatalf("P3.10: Parse of Text of %s is %s, %d", show(v), show(x), e)
		}
	}
}

func TestKnownTexts(t *testing.T) {
	for _, x := range []struct {
		x api.Int
		s string
	}{
		{api.Int{}, "0"},
		{api.Int{D: []int{}}, "0"},
		{api.Int{D: []int{7}}, "7"},
		{api.Int{Neg: true, D: []int{5}}, "-5"},
		{api.Int{D: []int{0, 1}}, "1000000000"},
		{api.Int{D: []int{1, 1}}, "1000000001"},
		{api.Int{D: []int{999999999}}, "999999999"},
		{api.Int{D: []int{12, 345, 6}}, "6000000345000000012"},
		{api.Int{Neg: true, D: []int{0, 0, 10}}, "-10000000000000000000"},
		{api.Int{D: []int{709551616, 446744073, 18}}, "18446744073709551616"},
		{api.Int{D: []int{100000000, 10, 123456789}}, "123456789000000010100000000"},
	} {
		if s := integer.Text(x.x); s != x.s {
			t.Errorf("P3.6: the text of %v is %q", x.x, s)
		}
		if y, e := integer.Parse(x.s); !same(y, x.x) || e != api.OK {
			t.Errorf("P3.6: Parse(%q) is %v, %d", x.s, y, e)
		}
	}
}

func TestTexts(t *testing.T) {
	texts := map[string]bool{}
	for _, v := range edges() {
		checkText(t, v)
		texts[integer.Text(of(v))] = true
	}
	if len(texts) != len(edges()) {
		t.Error("P3.10: different integers have equal texts")
	}
	for n := int64(-2000); n <= 2000; n++ {
		checkText(t, big.NewInt(n))
	}
	r := rand.New(rand.NewPCG(3, 9))
	for range 20000 {
		checkText(t, value(random(r, 1+r.IntN(20))))
	}
	for n := range 100 {
		checkText(t, power(10, n))
		checkText(t, new(big.Int).Sub(power(10, n), big.NewInt(1)))
		checkText(t, new(big.Int).Neg(new(big.Int).Add(power(10, n), big.NewInt(1))))
	}
}

func TestTextsOfInts(t *testing.T) {
	for _, n := range someInts() {
		s := strconv.Itoa(n)
		if integer.Text(integer.Of(n)) != s {
			t.Errorf("P3.11: the text of %d", n)
		}
		if x, e := integer.Parse(s); !same(x, integer.Of(n)) || e != api.OK {
			t.Errorf("P3.11: Parse(%q) is %v, %d", s, x, e)
		}
	}
}

func TestTextsOfNone(t *testing.T) {
	for _, s := range []string{
		"", "-", "--", "-0", "--1", "00", "01", "-01", "000000000", "0000000001", "-00", "00000000000000000000",
		"+", "+0", "+1", "-+1", "+-1", "1-", "1-2", " ", " 1", "1 ", "1 000", "\t1", "1\n", "\n", "-\n1", "- 1",
		"1_000", "1,000", "1.0", "1.", ".1", "1e3", "1E3", "0x10", "0b1", "0o7", "a", "1a", "a1", "1/1", "1/2", "/", ":", "1/", "1:", "-/", "-:",
		"123456789a", "a123456789", "12345678 123456789", "1234567890-1234567890", "1000000000+00000000", "1-00000001", "1+00000001", "1+000000001",
		"\x00", "1\x00", "\x001", "\xff", "\xb1", "\u0661", "\uff11", "\u2212" + "1", "\u00bd", "1\u0660",
		"NaN", "inf", "-inf", "nil", "0-", "0 ", "00-", "0.", "0\x00",
		strings.Repeat("-", 20), strings.Repeat("0", 500), "-" + strings.Repeat("0", 500), strings.Repeat("0", 500) + "1",
	} {
		if x, e := integer.Parse(s); e != api.ErrForm || !same(x, api.Int{}) {
			t.Errorf("P3.6: Parse(%q) is %v, %d", s, x, e)
		}
	}
}

func TestAllShortTexts(t *testing.T) {
	var extend func(s string)
	extend = func(s string) {
		checkParse(t, s)
		if len(s) < 5 {
			for _, c := range []byte("-019+/: ") {
				extend(s + string([]byte{c}))
			}
		}
	}
	extend("")
	for c := range 256 {
		for _, s := range []string{"%", "%1", "1%", "-%", "-1%", "-%1", "1%1", "%000000000", "1%00000000", "123456789%123456789", "1234567890%", "%1234567890"} {
			checkParse(t, strings.ReplaceAll(s, "%", string([]byte{byte(c)})))
		}
	}
}

func TestOtherBytesInLongTexts(t *testing.T) {
	s := []byte("-123456789012345678901234567890")
	for i := range s {
		for _, c := range []byte("-+ _.,eE/:ax0\x00\x80\xff") {
			keep := s[i]
			s[i] = c
			checkParse(t, string(s))
			s[i] = keep
		}
	}
}

func TestTextsOfTheGreatestLength(t *testing.T) {
	for _, n := range []int{65534, 65535, 65536, 65537, 65538, 131072} {
		nines := strings.Repeat("9", n)
		for _, s := range []string{
			nines, "-" + nines[1:], "1" + strings.Repeat("0", n-1), "-1" + strings.Repeat("0", n-2), // integers, if they are short enough
			"0" + nines[1:], "-0" + nines[2:], nines[1:] + "-", nines[1:] + "x", strings.Repeat("0", n), strings.Repeat("-", n), " " + nines[1:], strings.Repeat(" ", n),
		} {
			checkParse(t, s)
		}
	}
	for _, x := range []struct {
		s string
		e api.Errno
	}{
		{strings.Repeat("7", 65536), api.OK},
		{"-" + strings.Repeat("7", 65535), api.OK},
		{strings.Repeat("7", 65537), api.ErrLimit},
		{"-" + strings.Repeat("7", 65536), api.ErrLimit},
		{strings.Repeat("x", 65536), api.ErrForm},
		{strings.Repeat("x", 65537), api.ErrLimit}, // two errors: the first one counts
	} {
		if y, e := integer.Parse(x.s); e != x.e || e != api.OK && !same(y, api.Int{}) {
			t.Errorf("P3.6: a text of %d bytes: the error is %d, not %d", len(x.s), e, x.e)
		}
	}
}

func TestTextsOfManyDigits(t *testing.T) {
	for _, n := range []int{1000, 7281, 7282, 20000} { // those of the last ones are longer than Parse allows
		x := long(n, 18)
		for _, y := range []api.Int{x, {Neg: true, D: x.D}} {
			checkText(t, value(y))
		}
	}
	x := long(20000, 18)
	if _, e := integer.Parse(integer.Text(x)); e != api.ErrLimit {
		t.Error("P3.6: a text of 180000 bytes: the error is", e)
	}
}
