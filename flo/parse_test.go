package flo_test

import (
	"math"
	"math/big"
	"regexp"
	"strconv"
	"strings"
	"testing"

	"distaff/api"
	"distaff/flo"
)

// P3.3

// numeral is the forms of texts that aren't names.
var numeral = regexp.MustCompile(`^([+-]?)(?:([0-9]+)\.([0-9]*)|()\.([0-9]+)|([0-9]+)())(?:[eE]([+-]?[0-9]{1,4}))?$`)

// meaning is the number nearest to what a text's digits mean, and whether it is such a text.
func meaning(s string) (float64, bool) {
	l := numeral.FindStringSubmatch(s)
	if l == nil || len(s) > 700 || !strings.ContainsAny(s, ".eE") {
		return 0, false
	}
	whole, broken := l[2]+l[4]+l[6], l[3]+l[5]+l[7]
	digits, _ := new(big.Int).SetString(whole+broken, 10)
	power, _ := strconv.Atoi(l[8])
	f := nearest(new(big.Rat).Mul(new(big.Rat).SetInt(digits), ten(power-len(broken))))
	if l[1] == "-" {
		f = math.Copysign(f, -1)
	}
	return f, true
}

// reads complains, if a text isn't read as f.
func reads(t *testing.T, s string, f float64) {
	t.Helper()
	if got, e := flo.Parse(s); !is(got, f) || e != api.OK {
		t.Errorf("%s: %v and error %d, not %v", s, got, e, f)
	}
}

// fails complains, if a text is read.
func fails(t *testing.T, s string) {
	t.Helper()
	if got, e := flo.Parse(s); !is(got, 0) || e != api.ErrFloat {
		t.Errorf("%q: %v and error %d", s[:min(len(s), 40)], got, e)
	}
}

// readsSigned complains, if a text isn't read as f, or one of the two with a sign isn't.
func readsSigned(t *testing.T, s string, f float64) {
	t.Helper()
	reads(t, s, f)
	reads(t, "+"+s, f)
	reads(t, "-"+s, -f)
}

func TestParseNames(t *testing.T) {
	reads(t, "+nan.0", math.NaN())
	reads(t, "+inf.0", math.Inf(1))
	reads(t, "-inf.0", math.Inf(-1))
	if f, _ := flo.Parse("+nan.0"); flo.Bits(f) != nanBits || math.Float64bits(f) != nanBits {
		t.Error("not a number", math.Float64bits(f))
	}
	for _, s := range []string{
		"-nan.0", "nan.0", "nan", "NaN", "+nan", "+NAN.0", "+nan.", "+nan.00", "+nan.0 ", " +nan.0", "+nan.1", "+nan.0e1", "++nan.0",
		"inf.0", "inf", "Inf", "+Inf", "-inf", "+inf", "+INF.0", "+inf.", "+inf.00", "-inf.0 ", " -inf.0", "-inf.1", "+inf.0e1", "--inf.0", "infinity", "+infinity", "-Infinity",
	} {
		fails(t, s)
	}
}

func TestParse(t *testing.T) {
	cases := []struct {
		text string
		want float64
	}{
		{"0.0", 0}, {"0.", 0}, {".0", 0}, {"0e0", 0}, {"00.00e-00", 0}, {"0e9999", 0}, {"0.000e-9999", 0},
		{"1.0", 1}, {"1.", 1}, {".5", 0.5}, {"5.", 5}, {"12.5", 12.5}, {"0012.500", 12.5}, {"3.14159", 3.14159},
		{"1e0", 1}, {"1E0", 1}, {"1e3", 1000}, {"1E+3", 1000}, {"1e-3", 0.001}, {"1e03", 1000}, {"1e0003", 1000}, {"1e-0003", 0.001}, {"1e+0003", 1000},
		{"1.e3", 1000}, {".5e1", 5}, {"1.5e1", 15}, {"1.5E-1", 0.15}, {"15e-1", 1.5}, {"1.25e+2", 125}, {"100.0e-2", 1},
		{"123456789012345678901.0", 123456789012345680000}, {"0.1", 0.1}, {"0.30000000000000004", 0.30000000000000004},
	}
	for _, c := range cases {
		readsSigned(t, c.text, c.want)
	}
	reads(t, "-0.0", minusZero())
	reads(t, "-.0e5", minusZero())
	reads(t, "-0e0", minusZero())
}

func TestParseNoNumber(t *testing.T) {
	for _, s := range []string{
		"", "+", "-", ".", "+.", "-.", "e", "E", "e1", "+e1", ".e1", "-.e1", "1e", "1.e", "1.0e", "1.0e+", "1.0E-", "1e1.0", "1e.", "1e1e1", "1.0e1e",
		"1", "+1", "-1", "0", "123", "1..0", "1.0.0", "..1", "1.0.", "--1.0", "++1.0", "+-1.0", "-+1.0", "1.0-", "1.0+", "1-1.0", "1.0e--1", "1.0e+-1", "1.0e++1",
		" 1.0", "1.0 ", "1 .0", "1.0e 1", "1.0\n", "\t1.0", "- 1.0", "1,0", "1.0f", "1.0d0", "1.0p1", "0x1.0", "0x1p4", "0x1.0p1", "0X1P-2", "0b1.0", "0o1.0", "1_0.0", "1_000e1", "0x_1p1",
		"1.0e00001", "1.0e12345", "1.0e-10000", "1e+00000", "1e99999", "0.0e00000", "a", "1.0a", "a1.0", "1.0e1a", "1.0ea", "/1.0", ":1.0", "1.0e/", "1.0e:", "1/.0", "1.:", "\xff", "1.0\x00", "\x001.0",
		"\u0661.0", "1.\u0660", "\u22121.0", "1\u00b70", "1.0e\u0661", "1.0i", "1/2", "#i1.0", "1.0L5", "\u221e",
	} {
		fails(t, s)
	}
}

// All texts of a few bytes, of those that tell the forms.
func TestParseTakesTheFormsAlone(t *testing.T) {
	texts := []string{""}
	for i := 0; len(texts[i]) < 6; i++ {
		for _, c := range "01+-.eE" {
			texts = append(texts, texts[i]+string(c))
		}
	}
	read := 0
	for _, s := range texts {
		want, ok := meaning(s)
		if !ok {
			fails(t, s)
		} else {
			read++
			reads(t, s, want)
		}
		if t.Failed() {
			return
		}
	}
	if read == 0 {
		t.Error("none is read")
	}
}

func TestParseLongTexts(t *testing.T) {
	zeros := func(n int) string { return strings.Repeat("0", n) }
	nines := strings.Repeat("9", 697)
	cases := []struct {
		sign, rest string // of 700 bytes in all
		want       float64
	}{
		{"", zeros(697) + "1.5", 1.5}, {"+", zeros(696) + "1.5", 1.5}, {"-", zeros(696) + "1.5", -1.5},
		{"", "1.5" + zeros(697), 1.5}, {"-", "1.5" + zeros(696), -1.5}, {"", zeros(699) + ".", 0}, {"", "." + zeros(699), 0}, {"-", "." + zeros(698), minusZero()},
		{"", "1" + zeros(694) + "e-694", 1}, {"", "00." + zeros(692) + "1e693", 1}, {"+", "0." + zeros(692) + "1E693", 1},
		{"+", nines + ".0", math.Inf(1)}, {"-", nines + ".0", math.Inf(-1)}, {"-", "0." + nines, -1},
	}
	for _, c := range cases {
		s := c.sign + c.rest
		if len(s) != 700 {
			t.Fatal(len(s), s)
		}
		reads(t, s, c.want)
		fails(t, c.sign+"0"+c.rest)
	}
	fails(t, "0."+nines+"99")
	fails(t, "1."+zeros(1000000))
	fails(t, zeros(1000000)+"1.0")
	fails(t, "+inf.0"+zeros(1000))
}

// exactText is all digits of a size that has an end, as many as it takes.
func exactText(r *big.Rat) string {
	halvings := r.Denom().BitLen() - 1 // the denominator is a power of two
	return r.FloatString(max(halvings, 1))
}

// shifted is the digits of a text without a power, and the power that they are to be multiplied with.
func shifted(text string) (*big.Int, int) {
	whole, broken, _ := strings.Cut(text, ".")
	digits, _ := new(big.Int).SetString(whole+broken, 10)
	return digits, -len(broken)
}

// aroundHalf reads the number between two, and those as little below and above it as a text can tell.
func aroundHalf(t *testing.T, half *big.Rat, below, even, above float64) {
	t.Helper()
	digits, power := shifted(exactText(half))
	text := digits.String()
	suffix := ".e" + strconv.Itoa(power)
	room := 699 - len(text) - len(suffix)
	if room < 1 {
		t.Fatal("too long", half)
	}
	less := new(big.Int).Sub(digits, big.NewInt(1)).String()
	readsSigned(t, text+suffix, even)
	for _, n := range []int{1, room} {
		suffix := "e" + strconv.Itoa(power)
		readsSigned(t, text+"."+strings.Repeat("0", n-1)+"1"+suffix, above)
		readsSigned(t, less+"."+strings.Repeat("9", n)+suffix, below)
	}
}

func TestParseHalves(t *testing.T) {
	starts := []float64{1, 1.5, 0.1, 0.3, 100, 1e15, 9007199254740992, 9007199254740994, 1e21, 1e22, 1e23, 1e100, 1e300, 1e-5, 1e-20, 1e-100, 1e-250}
	next := noise()
	for range 200 {
		starts = append(starts, math.Ldexp(float64(next()>>11), int(next()%1600)-850))
	}
	for _, f := range starts {
		for range 3 {
			above := math.Nextafter(f, math.Inf(1))
			even := f
			if math.Float64bits(f)&1 == 1 {
				even = above
			}
			half := new(big.Rat).Add(ratio(f), ratio(above))
			aroundHalf(t, half.Quo(half, big.NewRat(2, 1)), f, even, above)
			f = above
		}
		if t.Failed() {
			return
		}
	}
}

func TestParseAroundTheGreatest(t *testing.T) {
	half := new(big.Int).Sub(bit(1024, 0), bit(970, 0))
	aroundHalf(t, new(big.Rat).SetInt(half), greatest, math.Inf(1), math.Inf(1))
	readsSigned(t, "1.7976931348623157e308", greatest)
	readsSigned(t, "1.7976931348623158e308", greatest)
	readsSigned(t, "1.7976931348623159e308", math.Inf(1))
	readsSigned(t, bit(1024, 0).String()+".0", math.Inf(1))
	readsSigned(t, half.String()+"e1", math.Inf(1))
	readsSigned(t, half.String()+"e-1", meant(t, half.String()+"e-1"))
}

// meant is the meaning of a text that has one.
func meant(t *testing.T, s string) float64 {
	t.Helper()
	f, ok := meaning(s)
	if !ok {
		t.Fatal(s)
	}
	return f
}

// Half of the least number has 752 digits, too many for a text: what lies around it is told by the first 690.
func TestParseAroundHalfOfTheLeast(t *testing.T) {
	five := new(big.Int).Exp(big.NewInt(5), big.NewInt(1075), nil).String()
	if len(five) != 752 {
		t.Fatal(len(five))
	}
	for _, n := range []int{1, 2, 17, 18, 19, 20, 21, 40, 690} {
		cut, _ := new(big.Int).SetString(five[:n], 10)
		power := "e-" + strconv.Itoa(1075-752+n)
		readsSigned(t, cut.String()+power, 0)
		cut.Add(cut, big.NewInt(1))
		readsSigned(t, cut.String()+power, leastOne)
	}
	for _, c := range []struct {
		text string
		want float64
	}{
		{"5e-324", leastOne}, {"3e-324", leastOne}, {"2.5e-324", leastOne}, {"2.4e-324", 0}, {"1e-324", 0}, {"1e-325", 0}, {"4.9e-324", leastOne},
		{"7.4e-324", leastOne}, {"7.5e-324", 2 * leastOne}, {"1e-323", 2 * leastOne}, {"2.2250738585072014e-308", 2.2250738585072014e-308}, {"2.2250738585072011e-308", 2.225073858507201e-308},
	} {
		readsSigned(t, c.text, c.want)
	}
	reads(t, "-1e-400", minusZero())
}

func TestParsePowersOfTen(t *testing.T) {
	for n := -400; n <= 400; n++ {
		s := "1e" + strconv.Itoa(n)
		readsSigned(t, s, meant(t, s))
		s = "123456789.87654321e" + strconv.Itoa(n)
		readsSigned(t, s, meant(t, s))
	}
	cases := []struct {
		text string
		want float64
	}{
		{"1e22", 1e22}, {"1e23", 1e23}, {"1e308", 1e308}, {"1e309", math.Inf(1)}, {"1e999", math.Inf(1)}, {"1e9999", math.Inf(1)}, {"1e-308", 1e-308}, {"1e-999", 0}, {"1e-9999", 0},
		{"1" + strings.Repeat("0", 308) + ".0", 1e308}, {"1" + strings.Repeat("0", 309) + ".0", math.Inf(1)},
		{"1" + strings.Repeat("0", 600) + "e-600", 1}, {"1" + strings.Repeat("0", 600) + "e-900", 1e-300}, {"1" + strings.Repeat("0", 600) + "e-9999", 0},
		{"0." + strings.Repeat("0", 599) + "1e600", 1}, {"0." + strings.Repeat("0", 599) + "1e900", 1e300}, {"0." + strings.Repeat("0", 599) + "1e9999", math.Inf(1)},
		{"." + strings.Repeat("0", 600) + "1e301", 1e-300}, {strings.Repeat("0", 600) + "1e5", 1e5},
	}
	for _, c := range cases {
		readsSigned(t, c.text, c.want)
	}
}

func TestParseOfDigitsOfAllLengths(t *testing.T) {
	next := noise()
	for n := 1; n <= 680; n += 7 {
		var digits strings.Builder
		for range n {
			digits.WriteByte(byte('0' + next()>>20%10))
		}
		at := int(next() >> 20 % uint64(n+1))
		s := digits.String()[:at] + "." + digits.String()[at:] + "e" + strconv.Itoa(int(next()>>20%700)-350-at)
		reads(t, s, meant(t, s))
	}
}
