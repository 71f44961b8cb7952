package tower_test

import (
	"math"
	"strconv"
	"strings"
	"testing"

	"distaff/api"
	"distaff/flo"
	"distaff/tower"
)

// P4.5

func TestText(t *testing.T) {
	for _, s := range wholes() {
		if got := tower.Text(s.num); got != s.whole.String() {
			t.Errorf("%q, not %v", got, s)
		}
	}
	for _, s := range floats() {
		if got := tower.Text(s.num); got != flo.Text(s.value) {
			t.Errorf("%q, not %v", got, s)
		}
	}
	cases := []struct {
		a    api.Num
		want string
	}{
		{api.Num{}, "0"}, {tower.Int(-7), "-7"}, {tower.Int(100), "100"}, {tower.Int(math.MinInt), "-9223372036854775808"},
		{tower.Flo(100), "100.0"}, {tower.Flo(0), "0.0"}, {tower.Flo(math.Copysign(0, -1)), "-0.0"}, {tower.Flo(-7.5), "-7.5"},
		{tower.Flo(1e21), "1.0e21"}, {tower.Flo(0.0001), "1.0e-4"}, {tower.Flo(leastOne), "5.0e-324"},
		{tower.Flo(math.Inf(1)), "+inf.0"}, {tower.Flo(math.Inf(-1)), "-inf.0"}, {tower.Flo(math.NaN()), "+nan.0"},
	}
	for _, c := range cases {
		if got := tower.Text(c.a); got != c.want {
			t.Errorf("%q, not %q", got, c.want)
		}
	}
}

func TestParseReadsTexts(t *testing.T) {
	for _, s := range samples() {
		got, e := tower.Parse(tower.Text(s.num))
		same(t, s.String(), got, e, s)
	}
}

func TestParseOfExactNumbers(t *testing.T) {
	for _, s := range wholes() {
		text := s.whole.String()
		digits := strings.TrimPrefix(text, "-")
		for _, zeros := range []string{"0", "000000000", strings.Repeat("0", 700-len(digits))} {
			got, e := tower.Parse(strings.TrimSuffix(text, digits) + zeros + digits)
			same(t, strconv.Quote(text), got, e, s)
		}
		if s.whole.Sign() >= 0 {
			got, e := tower.Parse("+" + digits)
			same(t, strconv.Quote(text), got, e, s)
		}
	}
	for _, text := range []string{"-0", "+0", "-000", strings.Repeat("0", 700), "-" + strings.Repeat("0", 700), "+" + strings.Repeat("0", 700)} {
		got, e := tower.Parse(text)
		same(t, strconv.Quote(text), got, e, of(t, "0"))
	}
}

func TestParseOfFloatingNumbers(t *testing.T) {
	for _, text := range []string{
		"0.0", "-0.0", "+0.0", "1.5", "+1.5", "-1.5", "00.50", ".5", "+.5", "-.5", "5.", "+5.", "-5.", "0.", ".0", "-.0",
		"1e3", "1E3", "1e+3", "1e-3", "1.e3", ".1e3", "-1.5e10", "+1.5E-10", "1e0000", "0e0", "-0e9999", "1e0308", "9007199254740993.0", "9007199254740993e0",
		"5e-324", "2e-324", "-2e-324", "1.7976931348623157e308", "1" + strings.Repeat("0", 300) + ".5",
	} {
		got, e := tower.Parse(text)
		same(t, strconv.Quote(text), got, e, of(t, text))
	}
	big := power(2, 2048, 0).String() // as digits alone it is too great for an exact number
	for text, want := range map[string]float64{
		"+inf.0": math.Inf(1), "-inf.0": math.Inf(-1), "+nan.0": math.NaN(),
		"1e400": math.Inf(1), "-1e400": math.Inf(-1), "1e-400": 0, "-1e-400": math.Copysign(0, -1), "1e9999": math.Inf(1),
		big + ".": math.Inf(1), "-" + big + ".0": math.Inf(-1), big + "e0": math.Inf(1), "." + big: 0.32317006071311007, big + "e-1000": 0,
		strings.Repeat("0", 698) + "7.": 7, "-." + strings.Repeat("0", 698): math.Copysign(0, -1), strings.Repeat("9", 698) + "e0": math.Inf(1),
	} {
		got, e := tower.Parse(text)
		same(t, strconv.Quote(text), got, e, floating(want))
	}
}

func TestParseOfNoNumbers(t *testing.T) {
	for _, text := range []string{
		"", "+", "-", ".", "+.", "-.", "e", "e5", ".e5", "+e5", "1e", "1e+", "1e-", "1.e", "1e12345", "1e+12345", "1e1.5", "1e5e5", "1.2.3", "1..2", "1.5.",
		"--1", "+-1", "-+1", "1-", "1+1", "1-1", "--1.5", "+-.5", "1e--5", "1.5-", "1.-5",
		" 1", "1 ", " 1.0", "1.0 ", "1 0", "1\n", "1.5\x00", "\x001", "1_0", "1_0.0", "1,5", "1'000",
		"0x10", "0x1.0", "0x1p4", "0b1", "#e1", "1/2", "1d5", "1f", "1.0f", "a", "1a", "a1", "one",
		"inf", "nan", "Inf", "NaN", "inf.0", "nan.0", "+inf", "-inf", "+nan", "-nan.0", "+INF.0", "+Inf.0", "+inf.", "+inf.00", "++inf.0", "+inf.0 ", "+nan.1", "+infinity",
		"\u0663", "\uFF11", "1\u0660", "\xff", "1\xff", "\u22121", "1\u00B7 5",
	} {
		got, e := tower.Parse(text)
		fails(t, strconv.Quote(text), got, e, api.ErrText)
	}
}

func TestParseOfDigitsTooGreat(t *testing.T) {
	digits := power(2, 2048, 0).String()
	for _, size := range []string{digits, "00" + digits, strings.Repeat("0", 700-len(digits)) + digits, strings.Repeat("9", 700), "1" + strings.Repeat("0", 699)} {
		for _, sign := range []string{"", "+", "-"} {
			got, e := tower.Parse(sign + size)
			fails(t, sign+size, got, e, api.ErrBig)
		}
	}
}

func TestParseOfTextsTooLong(t *testing.T) {
	for _, text := range []string{
		strings.Repeat("0", 701), "+" + strings.Repeat("0", 701), "-" + strings.Repeat("1", 701), strings.Repeat("9", 701), strings.Repeat("0", 700) + "1",
		strings.Repeat("0", 700) + ".", "." + strings.Repeat("0", 700), "-." + strings.Repeat("0", 699), strings.Repeat("0", 699) + "e0", "+" + strings.Repeat("1", 698) + "e0",
		strings.Repeat("1", 1<<20), "0." + strings.Repeat("1", 1<<20), strings.Repeat("-", 1<<20),
	} {
		got, e := tower.Parse(text)
		fails(t, "a text too long", got, e, api.ErrText)
	}
}
