package limb_test

import (
	"math/big"
	"slices"
	"strings"
	"testing"

	"distaff/api"
	"distaff/limb"
)

// tens is 10 to the power of n.
func tens(n int) *big.Int {
	return new(big.Int).Exp(big.NewInt(10), big.NewInt(int64(n)), nil)
}

// P1.3

func TestText(t *testing.T) {
	for _, a := range samples() {
		n := number(a)
		want := n.String()
		if isBig(n) {
			want = ""
		}
		if got := limb.Text(a); got != want {
			t.Errorf("Text of %v: %q, not %q", a, got, want)
		}
	}
}

// Digits within a number that are 0 are told as all others.
func TestTextAroundTens(t *testing.T) {
	for n := range 617 {
		for d := int64(-1); d <= 1; d++ {
			x := new(big.Int).Add(tens(n), big.NewInt(d))
			if got := limb.Text(limbsOf(x)); got != x.String() {
				t.Errorf("%q, not %q", got, x.String())
			}
		}
	}
}

// parsed checks what comes of a text of digits, of which there are neither too few nor too many.
func parsed(t *testing.T, s string) {
	t.Helper()
	want, ok := new(big.Int).SetString(s, 10)
	if !ok {
		t.Fatal(s)
	}
	got, e := limb.Parse(s)
	if isBig(want) {
		none(t, "Parse of "+s, got, e, api.ErrBig)
		return
	}
	same(t, "Parse of "+s, got, want)
	if e != api.OK {
		t.Errorf("Parse of %s: error %d", s, e)
	}
}

func TestParse(t *testing.T) {
	for _, a := range samples() {
		s := number(a).String()
		if len(s) <= 700 {
			parsed(t, s)
			parsed(t, strings.Repeat("0", 700-len(s))+s)
			parsed(t, s[:1])
		}
	}
	for n := range 700 {
		parsed(t, tens(n).String())
		parsed(t, strings.Repeat("9", n+1))
	}
	for _, s := range []string{"0", "00", "7", "0000000000", "0000000001", "000000000000000000123", "4294967295", "4294967296"} {
		parsed(t, s)
	}
}

func TestParseTheGreatest(t *testing.T) {
	greatest := number(full(64))
	got, e := limb.Parse(greatest.String())
	if !slices.Equal(got, full(64)) || e != api.OK {
		t.Error(got, e)
	}
	beyond := new(big.Int).Add(greatest, big.NewInt(1)).String()
	got, e = limb.Parse(beyond)
	none(t, "Parse", got, e, api.ErrBig)
	got, e = limb.Parse(strings.Repeat("0", 700-len(beyond)) + beyond)
	none(t, "Parse", got, e, api.ErrBig)
	got, e = limb.Parse(strings.Repeat("9", 700))
	none(t, "Parse", got, e, api.ErrBig)
}

func TestParseNoNumber(t *testing.T) {
	texts := []string{
		"", "-", "+", "-1", "+1", "-0", "+0", " ", " 1", "1 ", "1 2", "1.0", "1e3", "1_000", "0x10", "0b1", "0o7", "abc", "12a", "a12",
		"/", ":", "1/", "1:", "1,000", "\x00", "1\x00", "1\n", "\xb1", "\xff1", "１", "١", "²", "½",
		strings.Repeat("0", 701), strings.Repeat("1", 701), strings.Repeat("9", 701), strings.Repeat("0", 1000000),
		strings.Repeat("9", 699) + "x", "x" + strings.Repeat("9", 699), "-" + strings.Repeat("9", 699),
	}
	for _, s := range texts {
		got, e := limb.Parse(s)
		none(t, "Parse of "+s[:min(len(s), 20)], got, e, api.ErrText)
	}
}

// Each byte in each place of a part, and in a part behind the first one.
func TestParseEachByte(t *testing.T) {
	const digits = "12345678901234567890"
	for i := range len(digits) {
		for c := range 256 {
			s := digits[:i] + string([]byte{byte(c)}) + digits[i+1:]
			if '0' <= c && c <= '9' {
				parsed(t, s)
				continue
			}
			got, e := limb.Parse(s)
			none(t, "Parse", got, e, api.ErrText)
		}
	}
}
