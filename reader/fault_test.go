package reader_test

import (
	"strings"
	"testing"

	"distaff/api"
	"distaff/reader"
)

// P6.1: errors. (Those of a TOKEN by itself are with the TOKENS.)

func TestLongTextsOfAnyKind(t *testing.T) {
	spaces := strings.Repeat(" ", 19999)
	reads(t, "a"+spaces, sym("a"))
	reads(t, spaces+"a", sym("a"))
	reads(t, ";"+spaces)
	fails(t, ")"+spaces, api.ErrClose, 0)
	fails(t, spaces+")", api.ErrClose, 19999)
	fails(t, spaces+"(", api.ErrOpen, 19999)
	for _, text := range []string{"a" + spaces + " ", spaces + " a", spaces + "  ", ";" + spaces + " ", ")" + spaces + ")", "(" + spaces + "(", "#" + spaces + " ", "\"" + spaces + " ", "\xff" + spaces + "\xff", strings.Repeat("(", 20001), strings.Repeat("\x00", 20001), strings.Repeat("a ", 10001), strings.Repeat("a", 1<<22), strings.Repeat("(", 1<<22)} {
		fails(t, text, api.ErrLong, 0)
	}
}

func TestCloseWithoutOpen(t *testing.T) {
	for _, ahead := range []string{"", " ", "a ", "()", "#(a)", "(a . b) ", "((a) (b))", "'a ", "\"(\"", "#\\(", ";(\n", "''(a)", "(#\\))"} {
		fails(t, ahead+")", api.ErrClose, len(ahead))
		fails(t, ahead+")(", api.ErrClose, len(ahead))
		fails(t, ahead+") #", api.ErrClose, len(ahead))
		for quote := range quotes() {
			fails(t, ahead+quote+")", api.ErrClose, len(ahead+quote))
			fails(t, ahead+"'"+quote+" )", api.ErrClose, len(ahead+quote)+2)
		}
	}
}

func TestCloseWithoutDatum(t *testing.T) {
	for _, open := range []string{"(", "#(", "(a ", "#(a b ", "(a . ", "((a) . ", "((", "'(", "'#(a ", "(a . (", "(a (b) . ", "#((a . "} {
		for quote := range quotes() {
			for _, gap := range gaps() {
				fails(t, open+quote+")", api.ErrRead, len(open+quote))
				fails(t, open+quote+gap+")", api.ErrRead, len(open+quote+gap))
				fails(t, open+"'"+gap+quote+")) #", api.ErrRead, len(open+quote+gap)+1)
			}
		}
	}
	for _, ahead := range []string{"(a .", "(a b .", "((a) .", "(#() .", "(a . (b .", "#((a .", "'(a .", "('a .", "(\"a\".", "((a . b) ."} {
		fails(t, ahead+")", api.ErrRead, len(ahead))
		fails(t, ahead+" )", api.ErrRead, len(ahead)+1)
		fails(t, ahead+" ;b\n)))", api.ErrRead, len(ahead)+4)
	}
}

func TestPoints(t *testing.T) {
	for _, ahead := range []string{
		"", "a ", "(a) ", "'", "'a ", // where nothing is open
		"#(", "#(a ", "#(a b ", "(a #(b ", "'#(a ", "(a . #(b ", // in a vector
		"(", "((", "(a (", "#((", "'(", "(a . (", "(;a\n", // with nothing ahead
		"(a . ", "(a . b ", "(a b . c ", "(a . (b) ", "(a . () ", "((a . b) . c ", "(a . 'b ", "(a . #() ", // with a point ahead
		"(a '", "(a ,@", "('", "(''", "(a . '", "(a . b) '", "(a . (b '", "((a) `", "#('", "'(a ,", // a QUOTE without a datum
	} {
		for _, behind := range []string{"", " ", ")", " b)", "\nb", "(b))", "\"", ";", " . b"} {
			fails(t, ahead+"."+behind, api.ErrRead, len(ahead))
		}
		fails(t, ahead+". \"", api.ErrRead, len(ahead))
		fails(t, ahead+". #", api.ErrRead, len(ahead))
		fails(t, ahead+".\"", api.ErrRead, len(ahead))
	}
}

func TestDataBehindTails(t *testing.T) {
	begins := []string{"a", "1", "#t", "\"a\"", "#\\a", "(", "#(", "'", "`", ",", ",@", "()", "(a)", "'a", "...", "-", "\"\"", "#\\)"}
	for _, ahead := range []string{"(a . b ", "(a b . c ", "(a . () ", "(a . (b) ", "(a . (b . c) ", "(a . #(b) ", "(a . 'b ", "(a . ''b ", "(a . ,@(b) ", "(a . \"b\"", "(a . #\\b ", "((a . b) . c ", "'(a . b ", "#((a . b ", "(a . (b . c ", "('(a . b ", "(a . b ;c\n"} {
		for _, begin := range begins {
			fails(t, ahead+begin, api.ErrRead, len(ahead))
			fails(t, ahead+begin+")", api.ErrRead, len(ahead))
			fails(t, ahead+begin+" b))", api.ErrRead, len(ahead))
		}
		fails(t, ahead+"#", api.ErrRead, len(ahead))
		fails(t, ahead+"\"", api.ErrOpen, len(ahead))
		fails(t, ahead+"\""+strings.Repeat("a", 401)+"\"", api.ErrLong, len(ahead))
	}
}

// opening is n brackets and QUOTES, of one kind or of several, with nothing between.
func opening(n int, kinds ...string) string {
	var b strings.Builder
	for i := range n {
		b.WriteString(kinds[i%len(kinds)])
	}
	return b.String()
}

// closing is what closes all brackets of an opening.
func closing(open string) string {
	return strings.Repeat(")", strings.Count(open, "("))
}

// openers is the TOKENS after which something is open.
func openers() []string {
	return []string{"(", "#(", "'", "`", ",", ",@"}
}

// isRead complains, if a text has a fault, or other than n data.
func isRead(t *testing.T, text string, n int) {
	t.Helper()
	if got, fault := reader.Read([]byte(text)); len(got) != n || fault != (api.Fault{}) {
		t.Errorf("%q: %d data, %v", short(text), len(got), fault)
	}
}

func TestDepth(t *testing.T) {
	for _, first := range openers() {
		for _, second := range openers() {
			for _, full := range []string{opening(60, first, second), opening(60, first, first, first, second), opening(59, first) + second, first + opening(59, second)} {
				whole := full + "a" + closing(full)
				isRead(t, whole, 1)
				isRead(t, whole+" b "+whole, 3)
				fails(t, full, api.ErrOpen, strings.LastIndexAny(full, "#('`,")-strings.Count(full[len(full)-2:], "#("))
				for _, next := range openers() {
					fails(t, full+next, api.ErrDeep, len(full))
					fails(t, full+next+"a", api.ErrDeep, len(full))
					fails(t, full+next+")", api.ErrDeep, len(full))
					fails(t, full+next+" #", api.ErrDeep, len(full))
					fails(t, full+" ;c\n"+next+next, api.ErrDeep, len(full)+4)
					fails(t, whole+" "+full+next, api.ErrDeep, len(whole+" "+full))
				}
			}
		}
	}
	for _, kind := range []string{"(", "#(", "'"} {
		fails(t, strings.Repeat(kind, 200), api.ErrDeep, 60*len(kind))
		fails(t, strings.Repeat(kind, 20000/len(kind)), api.ErrDeep, 60*len(kind))
	}
}

// A QUOTE is open till its datum is there, and no longer.
func TestDepthOfQuotes(t *testing.T) {
	for quote := range quotes() {
		isRead(t, strings.Repeat(quote+"a ", 1000), 1000)
		isRead(t, strings.Repeat(quote+"()", 1000), 1000)
		isRead(t, "("+strings.Repeat(quote+"a ", 999)+")", 1)
		isRead(t, "(a . "+quote+"b)", 1)
		for _, bracket := range []string{"(", "#("} {
			ahead := strings.Repeat(bracket, 59)
			isRead(t, ahead+quote+"a "+quote+"a "+quote+"\"b\"() (a)"+quote+"#\\a"+closing(ahead), 1)
			fails(t, ahead+quote+"a "+quote+quote+"a", api.ErrDeep, len(ahead)+2*len(quote)+2)
			fails(t, ahead+quote+"a "+quote+"(", api.ErrDeep, len(ahead)+2*len(quote)+2)
			ahead = strings.Repeat(bracket, 58)
			isRead(t, ahead+quote+"(a)"+quote+"#(b)"+quote+quote+"a("+quote+"a)"+closing(ahead), 1)
			fails(t, ahead+quote+"(a)"+quote+"("+quote+"a", api.ErrDeep, len(ahead)+2*len(quote)+4)
		}
	}
	tails := strings.Repeat("(a . ", 60)
	isRead(t, tails+"b"+strings.Repeat(")", 60), 1)
	isRead(t, tails+"b"+strings.Repeat(")", 60)+tails+"b"+strings.Repeat(")", 60), 2)
	fails(t, tails+"(", api.ErrDeep, 300)
	fails(t, tails+"'", api.ErrDeep, 300)
	fails(t, strings.Repeat("(a . '", 31), api.ErrDeep, 180)
}

// added is TOKENS that begin a datum, and how many nodes each adds.
func added() map[string]int {
	return map[string]int{"a": 1, "1": 1, "-1.5": 1, "#t": 1, "\"\"": 1, "\"a b\"": 1, "#\\a": 1, "#\\space": 1, "(": 1, "#(": 1, "'": 2, "`": 2, ",": 2, ",@": 2}
}

// filled is texts of n data whose nodes are n, or nearly so, and the rest in other data.
func filled(n int) []string {
	var l []string
	for text, nodes := range map[string]int{"a ": 1, "() ": 1, "#() ": 1, "\"\"": 1, "#\\a ": 1, "1 ": 1, "#f ": 1, "(a)": 2, "#(a)": 2, "'a ": 3, ",@() ": 3, "(a . b)": 3, "(a . (b))": 4, "(a . 'b)": 5, "'(a #(b))": 6} {
		l = append(l, strings.Repeat(text, n/nodes)+strings.Repeat("b ", n%nodes))
	}
	return l
}

func TestNodes(t *testing.T) {
	for token, nodes := range added() {
		for _, less := range []int{0, 1, 2, 3} {
			for _, ahead := range filled(3000 - less) {
				switch {
				case less < nodes:
					fails(t, ahead+token, api.ErrLong, len(ahead))
					fails(t, ahead+token+" #", api.ErrLong, len(ahead))
					fails(t, ahead+token+")", api.ErrLong, len(ahead))
				case nodes == 2 && less == 2:
					fails(t, ahead+token+"a", api.ErrLong, len(ahead+token))
					fails(t, ahead+token+"()", api.ErrLong, len(ahead+token))
					fails(t, ahead+token, api.ErrOpen, len(ahead))
				case nodes == 2:
					whole := ahead + token + "a "
					fails(t, whole+"a", api.ErrLong, len(whole))
				case token == "(" || token == "#(":
					whole := ahead + token + strings.Repeat("a ", less-1)
					fails(t, whole+"a", api.ErrLong, len(whole))
					fails(t, whole+")a", api.ErrLong, len(whole)+1)
					fails(t, whole, api.ErrOpen, len(ahead))
				default:
					whole := ahead + strings.Repeat(token+" ", less)
					fails(t, whole+token, api.ErrLong, len(whole))
				}
			}
		}
	}
}

func TestMostNodes(t *testing.T) {
	a, b := sym("a"), sym("b")
	reads(t, strings.Repeat("a ", 3000), many(3000, a)...)
	fails(t, strings.Repeat("a ", 3001), api.ErrLong, 6000)
	reads(t, "("+strings.Repeat("a ", 2999)+")", list(many(2999, a)...))
	fails(t, "("+strings.Repeat("a ", 3000)+")", api.ErrLong, 5999)
	reads(t, "("+strings.Repeat("a ", 2998)+". a)", dot(many(2999, a)...))
	fails(t, "("+strings.Repeat("a ", 2999)+". a)", api.ErrLong, 6001)
	reads(t, strings.Repeat("()", 3000), many(3000, list())...)
	fails(t, strings.Repeat("()", 3001), api.ErrLong, 6000)
	reads(t, strings.Repeat("'a ", 1000), many(1000, list(sym("quote"), a))...)
	fails(t, strings.Repeat("'a ", 1001), api.ErrLong, 3000)
	reads(t, "(a . ("+strings.Repeat("b ", 2997)+"))", list(append(syms("a"), many(2997, b)...)...))
	fails(t, "(a . ("+strings.Repeat("b ", 2998)+"))", api.ErrLong, 6000) // the tail's bracket is counted, though its list isn't there
	reads(t, "'("+strings.Repeat("#(a)", 1498)+")", list(sym("quote"), list(many(1498, vec(a))...)))
	fails(t, "'("+strings.Repeat("#(a)", 1499)+")", api.ErrLong, 2+1498*4+2)
}

// What is met at a TOKEN ahead of its nodes.
func TestOtherFaultsAheadOfNodes(t *testing.T) {
	full := strings.Repeat("a ", 3000)
	fails(t, full+"#", api.ErrRead, 6000)
	fails(t, full+"#\\aa", api.ErrRead, 6000)
	fails(t, full+"\"\\q\"", api.ErrRead, 6000)
	fails(t, full+"\"", api.ErrOpen, 6000)
	fails(t, full+")", api.ErrClose, 6000)
	fails(t, full+".", api.ErrRead, 6000)
	fails(t, "("+full[2:]+".)", api.ErrRead, 6000)
	fails(t, "(b . c "+full[8:]+"d", api.ErrRead, 7)
	for _, bracket := range []string{"(", "#("} {
		deep := strings.Repeat("a ", 2940) + strings.Repeat(bracket, 60)
		isRead(t, deep+closing(deep), 2941)
		fails(t, deep+"a", api.ErrLong, len(deep))
		for _, next := range openers() {
			fails(t, deep+next, api.ErrDeep, len(deep))
		}
	}
	tail := strings.Repeat("a ", 2997) + "(b . c "
	isRead(t, tail+")", 2998)
	for token := range added() {
		fails(t, tail+token, api.ErrRead, len(tail))
	}
	tail = strings.Repeat("(", 59) + "(a . b "
	for token := range added() {
		fails(t, tail+token, api.ErrRead, len(tail))
	}
}

func TestVectors(t *testing.T) {
	for item, d := range map[string]api.Datum{"a ": sym("a"), "\"\"": str(""), "() ": list(), "#() ": vec(), "'a ": list(sym("quote"), sym("a")), "(a . b)": dot(sym("a"), sym("b")), "(a . (b))": list(sym("a"), sym("b")), "#\\) ": char(')')} {
		for _, n := range []int{0, 1, 199, 200} {
			text := "#(" + strings.Repeat(item, n)
			reads(t, text+")", vec(many(n, d)...))
			reads(t, "(a . "+text+"))", dot(sym("a"), vec(many(n, d)...)))
			reads(t, "'"+text+")"+text+")", list(sym("quote"), vec(many(n, d)...)), vec(many(n, d)...))
		}
		for _, n := range []int{201, 202, 400} {
			text := "#(" + strings.Repeat(item, n)
			fails(t, text+")", api.ErrLong, len(text))
			fails(t, text+" ;)\n ) #", api.ErrLong, len(text)+5)
			fails(t, "a (b . "+text+")", api.ErrLong, len(text)+7)
			fails(t, "#('"+text+"))", api.ErrLong, len(text)+3)
			fails(t, text, api.ErrOpen, 0)
			fails(t, text+"(", api.ErrOpen, len(text))
			fails(t, text+"')", api.ErrRead, len(text)+1)
			fails(t, text+".)", api.ErrRead, len(text))
			fails(t, text+"#)", api.ErrRead, len(text))
			reads(t, text[1:]+")", list(many(n, d)...))
			reads(t, "#("+text[1:]+")a)", vec(list(many(n, d)...), sym("a")))
		}
	}
}

func TestOpenAtTheEnd(t *testing.T) {
	for text, at := range map[string]int{
		"(": 0, "((": 1, "(((": 2, "a (": 2, "(a": 0, "(a (b": 3, "(a (b)": 0, "(()": 0, "(() (": 4, "(() ()": 0, "() (": 3, "#(": 0, "a #(": 2, "#((": 2, "(#(": 1, "#(a": 0, "#(#()": 0, "#(#(": 2,
		"'": 0, "`": 0, ",": 0, ",@": 0, "''": 1, ",@,@": 2, "',@": 1, ",@'": 2, "a '": 2, "'a '": 3, "'(": 1, "'(a": 1, "('": 1, "('a": 0, "(a '": 3, "(a 'b": 0, "(a ' (b)": 0, "'#(": 1, "'#(a '": 5, "`(a ,": 4, "`(a ,@": 4, "`(a ,b": 1,
		"(a .": 0, "(a . ": 0, "(a . b": 0, "(a . (": 5, "(a . (b)": 0, "(a . (b .": 5, "(a . (b . c)": 0, "(a . '": 5, "(a . 'b": 0, "((a . b)": 0, "(a . #(": 5, "(a . #(b)": 0,
		"( ": 0, "(;)": 0, "( ;)\n": 0, "' ;a": 0, " \n(\t": 2, ";(\n'": 3, "(\")\"": 0, "(#\\)": 0, "(\"(\"": 0, "(#\\(": 0, "a b (c d": 4, "\"\u03bb\" (": 5, "(\"\u03bb\" '": 6,
	} {
		fails(t, text, api.ErrOpen, at)
		fails(t, text+" ", api.ErrOpen, at)
		fails(t, "(a)"+text+";)", api.ErrOpen, at+3)
	}
	for _, open := range openers() {
		fails(t, strings.Repeat(open, 60), api.ErrOpen, 59*len(open))
	}
}

// flaw is a text that has a fault, and where.
type flaw struct {
	text string
	e    api.Errno
	at   int
}

// flaws is some that are met whatever follows behind a blank.
func flaws() []flaw {
	many := strings.Repeat("a ", 201)
	return []flaw{
		{"#", api.ErrRead, 0}, {"a #\\aa", api.ErrRead, 2}, {"\"\\q\"", api.ErrRead, 0}, {"(a \xff", api.ErrRead, 3}, {"\"" + many + many + "\"", api.ErrLong, 0}, {")", api.ErrClose, 0}, {"(a))", api.ErrClose, 3}, {"')", api.ErrClose, 1}, {"(')", api.ErrRead, 2}, {"(a .)", api.ErrRead, 4},
		{".", api.ErrRead, 0}, {"(.", api.ErrRead, 1}, {"(a . b .", api.ErrRead, 7}, {"(a '.", api.ErrRead, 4}, {"(a . b c", api.ErrRead, 7}, {"(a . b '", api.ErrRead, 7}, {strings.Repeat("(", 61), api.ErrDeep, 60}, {strings.Repeat("'", 61), api.ErrDeep, 60}, {"#(" + many + ")", api.ErrLong, 404}, {strings.Repeat("a ", 3001), api.ErrLong, 6000},
	}
}

// Where two are wrong, the first one that is met counts.
func TestTheFirstFaultCounts(t *testing.T) {
	for _, first := range flaws() {
		fails(t, first.text, first.e, first.at)
		for _, second := range flaws() {
			fails(t, first.text+" "+second.text, first.e, first.at)
			fails(t, ";(a\n"+first.text+"\n"+second.text, first.e, first.at+4)
		}
		for _, behind := range []string{"\"", "(", "'", "#(\"", "\"\\"} {
			fails(t, first.text+" "+behind, first.e, first.at)
		}
	}
	fails(t, "(\"", api.ErrOpen, 1)
	fails(t, "'\"a", api.ErrOpen, 1)
	fails(t, "(a \"b)", api.ErrOpen, 3)
	fails(t, "(a #) (", api.ErrRead, 3)
	fails(t, "(a ;#\n", api.ErrOpen, 0)
	fails(t, "(a \"#\"", api.ErrOpen, 0)
}
