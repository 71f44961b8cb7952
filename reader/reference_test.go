package reader_test

import (
	"math/rand/v2"
	"regexp"
	"slices"
	"strconv"
	"strings"
	"testing"
	"unicode/utf8"

	"distaff/api"
	"distaff/datum"
	"distaff/reader"
	"distaff/tower"
)

// P6.1 once more, read another way: TOKENS by regular expressions, data by calls within calls. What the reader answers is held against that, for texts that nobody has thought of.

const notDelimiter = "[^ \\t\\n\\r()\";'`,]"

var (
	blankForm  = regexp.MustCompile(`\A(?:[ \t\n\r]|;[^\n]*)*`)
	fixedForm  = regexp.MustCompile("\\A(?:\\(|#\\(|\\)|'|`|,@|,)")
	textForm   = regexp.MustCompile(`(?s)\A"(?:\\.|[^"\\])*"`)
	insideForm = regexp.MustCompile(`(?s)\A(?:[^\\]|\\["\\ntr]|\\x[0-9a-fA-F]{1,6};)*\z`)
	escapeForm = regexp.MustCompile(`\\(?:["\\ntr]|x[0-9a-fA-F]+;)`)
	charForm   = regexp.MustCompile(`(?s)\A#\\.` + notDelimiter + `*`)
	numberForm = regexp.MustCompile(`\Ax[0-9a-fA-F]{1,6}\z`)
	wordForm   = regexp.MustCompile(`\A` + notDelimiter + `+`)
)

type reference struct {
	text                   string
	at                     int // where the next TOKEN is looked for
	token                  string
	start                  int // where the last one began
	nodes, depth, brackets int
}

// fail ends the reading.
func (r *reference) fail(e api.Errno, at int) {
	panic(api.Fault{Err: e, At: at})
}

// next goes to the next TOKEN: none at the end.
func (r *reference) next() {
	r.start = r.at + len(blankForm.FindString(r.text[r.at:]))
	rest := r.text[r.start:]
	switch {
	case rest == "":
		r.token = ""
	case fixedForm.MatchString(rest):
		r.token = fixedForm.FindString(rest)
	case rest[0] == '"':
		if r.token = textForm.FindString(rest); r.token == "" {
			r.fail(api.ErrOpen, r.start)
		}
	case strings.HasPrefix(rest, `#\`):
		if r.token = charForm.FindString(rest); r.token == "" {
			r.fail(api.ErrRead, r.start)
		}
	default:
		r.token = wordForm.FindString(rest)
	}
	r.at = r.start + len(r.token)
}

// sign is that of a number in hexadecimal digits.
func (r *reference) sign(digits string) rune {
	n, err := strconv.ParseInt(digits, 16, 64)
	if err != nil || n > 0x10FFFF || n >= 0xD800 && n <= 0xDFFF {
		r.fail(api.ErrRead, r.start)
	}
	return rune(n)
}

// single is the datum that the last TOKEN is by itself.
func (r *reference) single() api.Datum {
	switch {
	case !utf8.ValidString(r.token):
		r.fail(api.ErrRead, r.start)
	case r.token[0] == '"':
		inside := r.token[1 : len(r.token)-1]
		if !insideForm.MatchString(inside) {
			r.fail(api.ErrRead, r.start)
		}
		inside = escapeForm.ReplaceAllStringFunc(inside, func(s string) string {
			if s[1] == 'x' {
				return string(r.sign(s[2 : len(s)-1]))
			}
			return map[string]string{`\"`: `"`, `\\`: `\`, `\n`: "\n", `\t`: "\t", `\r`: "\r"}[s]
		})
		if len([]rune(inside)) > 400 {
			r.fail(api.ErrLong, r.start)
		}
		return str(inside)
	case strings.HasPrefix(r.token, `#\`):
		name := r.token[2:]
		n, named := charNames()[name]
		switch {
		case len([]rune(name)) == 1:
			return char(int([]rune(name)[0]))
		case named:
			return char(n)
		case numberForm.MatchString(name):
			return char(int(r.sign(name[1:])))
		}
		r.fail(api.ErrRead, r.start)
	}
	if r.token == "#t" || r.token == "#f" {
		return truth(strings.Index("ft", r.token[1:]))
	}
	n, e := tower.Parse(r.token)
	switch {
	case e == api.OK:
		return api.Datum{Num: n}
	case e == api.ErrBig || !datum.Name(r.token):
		r.fail(api.ErrRead, r.start)
	}
	return sym(r.token)
}

// count adds nodes; what opens is within those that are open.
func (r *reference) count(nodes int, opens bool) {
	if opens && r.depth == 60 {
		r.fail(api.ErrDeep, r.start)
	}
	if r.nodes += nodes; r.nodes > 3000 {
		r.fail(api.ErrLong, r.start)
	}
}

// datum is the datum that begins with the last TOKEN.
func (r *reference) datum() api.Datum {
	start := r.start
	name, quoted := quotes()[r.token]
	switch {
	case r.token == ")" && r.brackets == 0:
		r.fail(api.ErrClose, start)
	case r.token == ")" || r.token == ".":
		r.fail(api.ErrRead, start)
	case quoted:
		r.count(2, true)
		r.depth++
		if r.next(); r.token == "" {
			r.fail(api.ErrOpen, start)
		}
		d := r.datum()
		r.depth--
		return list(sym(name), d)
	case r.token == "(" || r.token == "#(":
		return r.items(r.token == "#(")
	}
	d := r.single()
	r.count(1, false)
	return d
}

// items is the list or the vector that begins with the last TOKEN.
func (r *reference) items(vector bool) api.Datum {
	start := r.start
	r.count(1, true)
	r.depth++
	r.brackets++
	var ahead []api.Datum
	for {
		r.next()
		switch {
		case r.token == "":
			r.fail(api.ErrOpen, start)
		case r.token == ")":
			if vector && len(ahead) > 200 {
				r.fail(api.ErrLong, r.start)
			}
			r.depth--
			r.brackets--
			if vector {
				return vec(ahead...)
			}
			return list(ahead...)
		case r.token == "." && !vector && len(ahead) > 0:
			return r.tail(start, ahead)
		}
		ahead = append(ahead, r.datum())
	}
}

// tail is the list that has a point, from that on.
func (r *reference) tail(start int, ahead []api.Datum) api.Datum {
	if r.next(); r.token == "" {
		r.fail(api.ErrOpen, start)
	}
	d := r.datum()
	switch r.next(); r.token {
	case "":
		r.fail(api.ErrOpen, start)
	case ")":
	default:
		if !fixedForm.MatchString(r.token) && r.token != "." {
			r.single() // its own faults are told first
		}
		r.fail(api.ErrRead, r.start)
	}
	r.depth--
	r.brackets--
	switch d.Kind {
	case api.DList:
		return list(slices.Concat(ahead, d.Items)...)
	case api.DDot:
		return dot(slices.Concat(ahead, d.Items)...)
	}
	return dot(append(ahead, d)...)
}

// refer reads a text.
func refer(text string) (l []api.Datum, fault api.Fault) {
	defer func() {
		if met := recover(); met != nil {
			l, fault = nil, met.(api.Fault)
		}
	}()
	if len(text) > 20000 {
		return nil, api.Fault{Err: api.ErrLong}
	}
	r := reference{text: text}
	for r.next(); r.token != ""; r.next() {
		l = append(l, r.datum())
	}
	return l, fault
}

// agree complains, if the reader answers otherwise.
func agree(t *testing.T, text string) {
	t.Helper()
	want, fault := refer(text)
	if got, e := reader.Read([]byte(text)); e != fault || !slices.EqualFunc(got, want, equal) {
		t.Errorf("%q: %s, %v, not %s, %v", short(text), told(got), e, told(want), fault)
	}
}

// All texts of a few pieces.
func TestAllShortTexts(t *testing.T) {
	pieces := []string{"(", "#(", ")", "'", ",@", ".", "a ", "\"b\"", " ", "#", "\""}
	var try func(text string, left int)
	try = func(text string, left int) {
		agree(t, text)
		if left > 0 && !t.Failed() {
			for _, piece := range pieces {
				try(text+piece, left-1)
			}
		}
	}
	try("", 4)
	pieces = []string{"(", ")", "'", " . ", "a "}
	try("", 7)
	pieces = []string{"#", "\\", "x", "4", "a", ";", "\"", " "}
	try("", 4)
	try("\"", 4)
	try("#\\", 4)
}

// chosen is n pieces, one behind the other.
func chosen(random *rand.Rand, n int, pieces []string) string {
	var b strings.Builder
	for range n {
		b.WriteString(pieces[random.IntN(len(pieces))])
	}
	return b.String()
}

func TestTextsOfChosenPieces(t *testing.T) {
	random := rand.New(rand.NewPCG(6, 1))
	all := [][]string{
		{"(", "(", "#(", ")", ")", ")", " ", "\n", ";", "'", "`", ",", "@", ".", " . ", "a", "bc", "...", "1", "-2.5", "#t", "#f", "#\\", "#\\a", "#\\space", "#\\x41", "x", "\"", "\"a\"", "\\", "\\n", "\\x41;", "#", "\u03bb", "\xff", "\x00"},
		{"(", "(", "#(", ")", "'", "`", ",@", ",", "a ", "b ", "\"c\"", "(d . e)", "(d . ", "(", "("},
		{"()", "a ", "'a ", "#(a)", "\"b\"", "#\\( ", "(a . b)", "(a . (b))", "1 ", ";)\n", "#t "},
		{"(", ")", "a ", "a ", "a ", "'", " . ", "#(", ")", "(a ", "(a . b"},
		{"\"", "\\", "\\\\", "\\\"", "n", "x", "4", "1;", ";", "d800", "\n", " ", "a", "\u20ac", "\x80"},
		{"#\\", "#", "\\", "x", "41", "newline", "tab", "nul", "space", " ", "(", ")", "\"", ";", "'", "\u20ac", "\xe2"},
	}
	for i := range 60000 {
		if agree(t, chosen(random, 1+random.IntN(12), all[i%len(all)])); t.Failed() {
			return
		}
	}
	for i := range 3000 {
		agree(t, chosen(random, 1+random.IntN(400), all[i%len(all)]))
	}
	for range 300 {
		agree(t, chosen(random, 900+random.IntN(900), all[2]))
		agree(t, "(a "+chosen(random, 1300+random.IntN(200), all[2])+")")
		agree(t, "#("+chosen(random, 195+random.IntN(10), all[2])+")")
		agree(t, chosen(random, 56+random.IntN(8), []string{"(", "#(", "'", "(a . "})+"a"+strings.Repeat(")", random.IntN(62)))
	}
}

// Texts that are read, with a few bytes of them changed.
func TestChangedTexts(t *testing.T) {
	random := rand.New(rand.NewPCG(6, 2))
	const bytes = "()'`,@.#\\\";ax41 \n\x00\xff\xc3"
	for text := range nests() {
		text = "(a " + text + " \"b\\n\\x3bb;\" #\\x41 . #\\space)`(,c ,@(d . (e)))"
		agree(t, text)
		for range 300 {
			b := []byte(text)
			for range 1 + random.IntN(3) {
				at := random.IntN(len(b))
				switch c := bytes[random.IntN(len(bytes))]; random.IntN(3) {
				case 0:
					b[at] = c
				case 1:
					b = slices.Insert(b, at, c)
				case 2:
					b = slices.Delete(b, at, at+1)
				}
			}
			if agree(t, string(b)); t.Failed() {
				return
			}
		}
	}
}
