package datum

import (
	"strconv"
	"strings"

	"distaff/api"
	"distaff/tower"
)

// Print: a datum's text.
func Print(d api.Datum) (string, api.Errno) {
	if !Right(d) {
		return "", api.ErrDatum
	}
	var b strings.Builder
	write(&b, d)
	return b.String(), api.OK
}

// write prints a RIGHT datum.
func write(b *strings.Builder, d api.Datum) {
	switch d.Kind {
	case api.DNum:
		b.WriteString(tower.Text(d.Num))
	case api.DBool:
		b.WriteString(truth(d.N))
	case api.DChar:
		b.WriteString(`#\` + signName(d.N))
	case api.DStr:
		writeText(b, d.Text)
	case api.DSym:
		b.WriteString(d.Text)
	case api.DList:
		writeItems(b, "(", d.Items)
		b.WriteString(")")
	case api.DDot:
		last := len(d.Items) - 1
		writeItems(b, "(", d.Items[:last])
		b.WriteString(" . ")
		write(b, d.Items[last])
		b.WriteString(")")
	case api.DVec:
		writeItems(b, "#(", d.Items)
		b.WriteString(")")
	}
}

// writeItems prints what opens, and Items with blanks between.
func writeItems(b *strings.Builder, open string, items []api.Datum) {
	b.WriteString(open)
	for i, d := range items {
		if i > 0 {
			b.WriteString(" ")
		}
		write(b, d)
	}
}

// writeText prints a text.
func writeText(b *strings.Builder, s string) {
	b.WriteString(`"`)
	for _, sign := range s {
		b.WriteString(signInText(sign))
	}
	b.WriteString(`"`)
}

// truth is a truth's text.
func truth(n int) string {
	if n == 1 {
		return "#t"
	}
	return "#f"
}

// signName is what stands behind #\ for a sign.
func signName(n int) string {
	switch {
	case n == ' ':
		return "space"
	case n == '\n':
		return "newline"
	case n == '\t':
		return "tab"
	case n == 0:
		return "nul"
	case n >= '!' && n <= '~':
		return string(rune(n))
	}
	return "x" + hexadecimal(n)
}

// signInText is what stands for a sign between quotation marks.
func signInText(sign rune) string {
	switch {
	case sign == '"' || sign == '\\':
		return `\` + string(sign)
	case sign == '\n':
		return `\n`
	case sign == '\t':
		return `\t`
	case sign == '\r':
		return `\r`
	case sign < ' ' || sign == 127:
		return `\x` + hexadecimal(int(sign)) + ";"
	}
	return string(sign)
}

// hexadecimal is the fewest digits of a number.
func hexadecimal(n int) string {
	return strconv.FormatInt(int64(n), 16)
}
