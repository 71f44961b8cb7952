package exact_test

import (
	"math/big"
	"strings"
	"testing"

	"distaff/api"
	"distaff/exact"
)

// P2.4

func TestText(t *testing.T) {
	for _, x := range samples() {
		if got := exact.Text(of(x)); got != x.String() {
			t.Errorf("%q, not %q", got, x.String())
		}
	}
	if got := exact.Text(api.Int{Limbs: []uint32{}}); got != "0" {
		t.Errorf("%q", got)
	}
}

func TestParse(t *testing.T) {
	for _, x := range samples() {
		digits := new(big.Int).Abs(x).String()
		for _, zeros := range []string{"", "0", "00000000000", strings.Repeat("0", 700-len(digits))} {
			got, e := exact.Parse(zeros + digits)
			same(t, "Parse", got, e, new(big.Int).Abs(x))
			got, e = exact.Parse("+" + zeros + digits)
			same(t, "Parse", got, e, new(big.Int).Abs(x))
			got, e = exact.Parse("-" + zeros + digits)
			same(t, "Parse", got, e, turned(new(big.Int).Abs(x)))
		}
		got, e := exact.Parse(exact.Text(of(x)))
		same(t, "Parse of Text", got, e, x)
	}
}

func TestParseNothing(t *testing.T) {
	for _, s := range []string{"0", "+0", "-0", "000", "-000", "+" + strings.Repeat("0", 700), "-" + strings.Repeat("0", 700)} {
		got, e := exact.Parse(s)
		nothing(t, "Parse of "+s, got, e, api.OK)
		if !exact.Right(got) {
			t.Errorf("Parse of %s: %v", s, got)
		}
	}
}

func TestParseNoNumber(t *testing.T) {
	texts := []string{
		"", "+", "-", "--", "++", "+-", "-+", "--1", "++1", "+-1", "-+1", "1-", "1+", "1-2", "- 1", " -1", "-1 ", " 1", "+ 1",
		"1.0", "-1.0", "1e3", "0x1", "-a", "+a", "a", "1_0", "\u22121", "\u0661", "-\u0661", "\x00", "-\x00", "-1\n", "\xff",
		strings.Repeat("0", 701), "-" + strings.Repeat("0", 701), "+" + strings.Repeat("9", 701),
		"-" + strings.Repeat("0", 1000000), "-" + strings.Repeat("9", 699) + "x",
	}
	for _, s := range texts {
		got, e := exact.Parse(s)
		nothing(t, "Parse of "+s[:min(len(s), 20)], got, e, api.ErrText)
	}
}

func TestParseTooGreat(t *testing.T) {
	beyond := bit(2048, 0).String()
	for _, digits := range []string{beyond, strings.Repeat("0", 700-len(beyond)) + beyond, strings.Repeat("9", 700)} {
		for _, sign := range []string{"", "+", "-"} {
			got, e := exact.Parse(sign + digits)
			nothing(t, "Parse", got, e, api.ErrBig)
		}
	}
}
