package rat_test

import (
	"math"
	"math/big"
	"math/rand/v2"
	"regexp"
	"strings"
	"testing"

	"sherd/api"
	"sherd/rat"
)

var shape = regexp.MustCompile(`\A(0|-?[1-9][0-9]*)(?:/([1-9][0-9]*))?\z`)

// parse follows the wording of the chapter: the number with a text, or nil.
func parse(s string) *big.Rat {
	part := shape.FindStringSubmatch(s)
	if part == nil {
		return nil
	}
	p, _ := new(big.Int).SetString(part[1], 10)
	if part[2] == "" {
		return new(big.Rat).SetInt(p)
	}
	q, _ := new(big.Int).SetString(part[2], 10)
	v := new(big.Rat).SetFrac(p, q)
	if v.IsInt() || v.Denom().Cmp(q) != 0 {
		return nil
	}
	return v
}

// checkParse compares what Parse returns for any string with the wording of P4.7.
func checkParse(t *testing.T, s string) {
	t.Helper()
	got, e := rat.Parse(s)
	want := api.ErrForm
	v := parse(s)
	switch {
	case len(s) > api.MaxBytes:
		want, v = api.ErrLimit, nil
	case v != nil:
		want = api.OK
	}
	if e != want {
		t.Fatalf("P4.7: Parse(%q): the error is %d, not %d", show(s), e, want)
	}
	if v == nil {
		if !identical(got, api.Rat{}) {
			t.Fatalf("P4.7: Parse(%q) returns %s with an error", show(s), show(got))
		}
		return
	}
	check(t, "P4.7", got, v, "Parse", s)
	if rat.Text(got) != s {
		t.Fatalf("P4.12: Text of Parse(%q) is %q", show(s), show(rat.Text(got)))
	}
}

func TestKnownTexts(t *testing.T) {
	for _, x := range []struct {
		a api.Rat
		s string
	}{
		{rat.Of(6, -8), "-3/4"},
		{api.Rat{}, "0"},
		{api.Rat{P: num(), Q: num()}, "0"},
		{rat.Of(0, 5), "0"},
		{rat.Of(1, 1), "1"},
		{rat.Of(-1, 1), "-1"},
		{rat.Of(1, 2), "1/2"},
		{rat.Of(-10, 4), "-5/2"},
		{rat.Of(1000000000, 3), "1000000000/3"},
		{rat.Of(3, 1000000001), "3/1000000001"},
		{rat.Of(1, -1000000000), "-1/1000000000"},
		{rat.Of(math.MinInt, 1), "-9223372036854775808"},
		{rat.Of(math.MinInt, math.MaxInt), "-9223372036854775808/9223372036854775807"},
		{rat.Of(math.MaxInt, math.MinInt), "-9223372036854775807/9223372036854775808"},
		{rat.Of(1, math.MinInt), "-1/9223372036854775808"},
	} {
		if got := rat.Text(x.a); got != x.s {
			t.Errorf("P4.7: Text(%v) is %q", x.a, got)
		}
		if got, e := rat.Parse(x.s); !identical(got, x.a) || e != api.OK {
			t.Errorf("P4.7: Parse(%q) is %v, %d", x.s, got, e)
		}
	}
}

func TestTextsOfNoNumber(t *testing.T) {
	for _, s := range []string{
		"", "/", "//", "1/", "/2", "-", "-/", "-/2", "-1/", "+1", "+1/2", "1/+2", "0/", "/0", "1//2", "1/2/", "/1/2", "1/2/3", "1/2/3/4",
		"1/0", "-1/0", "0/0", "0/1", "0/2", "0/5", "-0", "-0/3", "-0/1", "00", "01", "01/2", "1/02", "1/00", "1/2.0", "00/3",
		"2/4", "4/2", "3/1", "-3/1", "1/1", "-2/4", "6/9", "5/5", "1000000000/1000000000", "1000000000/2", "7/1000000001",
		"1/-2", "-1/-2", "1/-0", "1/-1", "3/-1", "0/-1", "--1/2", "1/--2", "- 1/2",
		" 1/2", "1/2 ", "1 /2", "1/ 2", "1 1/2", "\n1", "1/2\n", "1\n/2", "\t1/2", "1/2\x00", "\x001/2", "1\x00/2",
		"1.5", "0.5", "1,5", "1e3", "1e3/7", "0x10", "0x1/2", "1_000", "1_0/3", "a", "a/b", "1/b", "nil", "1\\2", "1:2", "1÷2", "1⁄2", "½", "٣/٤", "1/٤", "１/２", "−1/2",
	} {
		if got, e := rat.Parse(s); e != api.ErrForm || !identical(got, api.Rat{}) {
			t.Errorf("P4.7: Parse(%q) is %v, %d", s, got, e)
		}
		checkParse(t, s)
	}
}

func TestParseAllShortTexts(t *testing.T) {
	var extend func(s string, letters string, n int)
	extend = func(s string, letters string, n int) {
		checkParse(t, s)
		for _, c := range []byte(letters) {
			if len(s) < n {
				extend(s+string(c), letters, n)
			}
		}
	}
	extend("", "/0123", 6)
	extend("", "-+/0146", 5)
	extend("", "-/ .0129a", 4)
	for k := range 256 {
		c := string([]byte{byte(k)})
		for _, s := range []string{c, "1" + c, c + "1", "1/" + c, "1/2" + c, c + "1/2", "1" + c + "2", "-" + c + "1/2", "1" + c + "/2", "1/" + c + "2"} {
			checkParse(t, s)
		}
	}
}

func TestTextsBackAndForth(t *testing.T) {
	l := append(edges(), small(12, 3)...)
	r := rand.New(rand.NewPCG(4, 14))
	for range 5000 {
		l = append(l, random(r, 6))
	}
	l = append(l, random(r, 900), new(big.Rat).SetFrac(power(10, 8999), power(3, 15000)))
	for _, v := range l {
		want := v.RatString() // without a denominator of 1
		if got := rat.Text(of(v)); got != want {
			t.Fatalf("P4.7: Text(%s) is %s", show(want), show(got))
		}
		a, e := rat.Parse(want)
		if e != api.OK {
			t.Fatalf("P4.12: Parse(%s): the error is %d", show(want), e)
		}
		check(t, "P4.12", a, v, "Parse", want)
	}
}

// Each change of one byte of a text.
func TestChangedTexts(t *testing.T) {
	for _, s := range []string{"-3/4", "5/6", "100/7", "-1000000000/3000000001", "123456789012345678901/10"} {
		checkParse(t, s)
		for i := range s {
			checkParse(t, s[:i])
			checkParse(t, s[i:])
			checkParse(t, s[:i]+s[i+1:])
			for _, c := range "-/0123456789. +" {
				checkParse(t, s[:i]+string(c)+s[i+1:])
				checkParse(t, s[:i]+string(c)+s[i:])
			}
		}
	}
}

func TestLongTexts(t *testing.T) {
	n := api.MaxBytes
	nines, zeros := strings.Repeat("9", n), strings.Repeat("0", n)
	for _, s := range []string{
		"1" + zeros[:n-1], "-" + nines[:n-1], nines, "1" + zeros[:n-3] + "/7", "1/" + nines[:n-2], "-" + nines[:n/2] + "/1" + zeros[:n/2-3],
		nines[:n-2] + "/3", nines[:n-2] + "/1", nines[:n-1] + "/", "/" + nines[:n-1], nines[:n-3] + "/02", zeros, "1/" + zeros[:n-2], nines[:n-1] + "x", strings.Repeat("/", n), nines[:n-3] + "/-7",
	} {
		if len(s) != n {
			t.Fatal("the test has a text of", len(s), "bytes")
		}
		checkParse(t, s)
	}
	for _, s := range []string{
		"1" + zeros, nines + "9", "-" + nines, "1/" + nines, "1/" + nines[:n-1], nines[:n-1] + "/2", "1" + zeros[:n-2] + "/7", "-" + nines[:n/2] + "/1" + zeros[:n/2-2],
		zeros + "0", zeros + "x", nines + "/", "/" + nines, strings.Repeat("/", n+1), strings.Repeat(" ", n+1), nines + nines, "2/4" + zeros, "1/" + zeros, "1/0" + strings.Repeat("x", 3*n),
	} {
		if got, e := rat.Parse(s); e != api.ErrLimit || !identical(got, api.Rat{}) {
			t.Errorf("P4.7: Parse of %d bytes, %s, is %s, %d", len(s), show(s), show(got), e)
		}
	}
	// A text may be longer than what Parse takes.
	a := rat.Make(whole(power(10, n-1)), whole(power(7, 20)))
	if s := rat.Text(a); s != "1"+zeros[:n-1]+"/"+power(7, 20).String() {
		t.Error("P4.7: the text of a long number is", show(s))
	}
	if _, e := rat.Parse(rat.Text(a)); e != api.ErrLimit {
		t.Error("P4.7: the error for a long text is", e)
	}
}
