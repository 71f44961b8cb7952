package datum_test

import (
	"regexp"
	"strings"
	"testing"

	"distaff/api"
	"distaff/datum"
	"distaff/tower"
)

// Types, and P5.1: Name

const (
	letters = "abcdefghijklmnopqrstuvwxyzABCDEFGHIJKLMNOPQRSTUVWXYZ"
	digits  = "0123456789"
	marks   = "!$%&*/:<=>?^_~+-.@"
)

// number is the texts of numbers, as layers 2 and 3 have them.
var number = regexp.MustCompile(`^([+-]?[0-9]+|[+-]?([0-9]+\.[0-9]*|\.[0-9]+)([eE][+-]?[0-9]{1,4})?|[+-]?[0-9]+[eE][+-]?[0-9]{1,4}|[+-]inf\.0|\+nan\.0)$`)

func named(t *testing.T, s string, want bool) {
	t.Helper()
	if got := datum.Name(s); got != want {
		t.Errorf("%q: %v", s, got)
	}
	if got := datum.Right(sym(s)); got != want {
		t.Errorf("the symbol %q: %v", s, got)
	}
}

func TestNameAtEachByte(t *testing.T) {
	for b := range 256 {
		s := string([]byte{byte(b)})
		can := strings.Contains(letters+digits+marks, s)
		named(t, s, can && s != "." && !strings.Contains(digits, s))
		named(t, "a"+s, can)
		named(t, s+"a", can)
		named(t, "a"+s+"a", can)
		named(t, strings.Repeat("a", 39)+s, can)
		named(t, s+strings.Repeat("a", 39), can)
		named(t, "a"+s+"(", false)
	}
}

func TestNameAtOtherSigns(t *testing.T) {
	for _, s := range []string{"\u00e9", "\u00df", "\u03bb", "\u0131", "\u017f", "\u212a", "\uff21", "\uff11", "\u0663", "\u2212", "\u2026", "\ufeff", "\U0001d49c", "e\u0301", "\xc0\x80", "\xed\xa0\x80"} {
		named(t, s, false)
		named(t, "a"+s, false)
		named(t, s+"a", false)
	}
}

func TestNameAtLengths(t *testing.T) {
	named(t, "", false)
	for _, s := range []string{"a", "Z", "-", "+", "@", ".."} {
		for n := 1; n <= 60; n++ {
			named(t, strings.Repeat(s, n), n*len(s) <= 40)
		}
	}
	for _, n := range []int{1 << 8, 1<<8 + 1, 1<<16 + 1, 1 << 20} {
		named(t, strings.Repeat("a", n), false)
	}
	named(t, "-"+strings.Repeat("9", 38)+"a", true)
	named(t, "-"+strings.Repeat("9", 39)+"a", false)
}

func TestNameAtPoints(t *testing.T) {
	named(t, ".", false)
	for _, s := range []string{"..", "...", ".a", "a.", ".-", "-.", "+.", ".+", ".e5", "..5", "5..", "1.2.3"} {
		named(t, s, true)
	}
}

func TestNameAtNumbers(t *testing.T) {
	for _, s := range []string{
		"0", "7", "-7", "+7", "007", "-0", "0.0", "-0.0", "1.5", ".5", "5.", "+.5", "-5.", "1e5", "1E5", "-1e+5", "+1e-5", "1.e5", ".1e5", "1e0000", "1e9999", "+inf.0", "-inf.0", "+nan.0",
		strings.Repeat("9", 40), "-" + strings.Repeat("0", 39), strings.Repeat("1", 38) + ".5", strings.Repeat("1", 35) + "e-123",
	} {
		named(t, s, false)
	}
	for _, s := range []string{
		"+", "-", "--", "+-", "-+", "--1", "+-1", "1-", "1+", "1+1", "-1-", "1/2", "a1", "1a", "1e", "e1", "1e+", "1e-", "1ee5", "1e5e5", "1e5.", "1e1.5", "1.5e", "1e12345", "1e+12345", "0x10", "1_0", "1f", "1d5",
		"inf.0", "nan.0", "-nan.0", "+inf", "+inf.", "+inf.00", "+Inf.0", "+INF.0", "+NaN.0", "+nan.1", "++inf.0", "+i", "-i", "1@2", "<=", "=>", "->a", "a->b", "_", "!", "set!", "null?", "let*", strings.Repeat("9", 39) + "a", strings.Repeat("1", 34) + "e12345",
	} {
		named(t, s, true)
	}
}

// A number's text is no NAME, whatever is wrong with the number.
func TestNameAtNumbersTooGreat(t *testing.T) {
	for _, s := range []string{strings.Repeat("9", 617), "-" + strings.Repeat("9", 700), strings.Repeat("1", 650), "+1" + strings.Repeat("0", 699)} {
		if _, e := tower.Parse(s); e != api.ErrBig {
			t.Errorf("%q: %d", s, e)
		}
		named(t, s, false)
	}
	for _, s := range []string{strings.Repeat("9", 616), "1" + strings.Repeat("0", 300) + ".5", strings.Repeat("9", 300) + "e9999", strings.Repeat("9", 701)} {
		named(t, s, false)
	}
}

// All short texts of the bytes that numbers are made of, and of two others.
func TestNameAtShortTexts(t *testing.T) {
	l := []string{""}
	for len(l) > 0 && len(l[0]) < 5 {
		var longer []string
		for _, s := range l {
			for _, b := range "05+-.eEa;" {
				longer = append(longer, s+string(b))
			}
		}
		for _, s := range longer {
			if named(t, s, s != "." && !strings.Contains(s, ";") && !number.MatchString(s)); t.Failed() {
				return
			}
		}
		l = longer
	}
}
