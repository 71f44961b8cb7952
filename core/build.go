package core

import (
	"strings"

	"distaff/api"
	"distaff/datum"
)

func nothing() api.Core {
	return api.Core{Kind: api.CVoid}
}

func constant(d api.Datum) api.Core {
	return api.Core{Kind: api.CConst, Datum: datum.Copy(d)}
}

// truth is the constant #t or #f.
func truth(n int) api.Core {
	return constant(api.Datum{Kind: api.DBool, N: n})
}

func variable(name string) api.Core {
	return api.Core{Kind: api.CVar, Name: strings.Clone(name)}
}

func choice(a, b, c api.Core) api.Core {
	return api.Core{Kind: api.CIf, Parts: []api.Core{a, b, c}}
}

func call(parts ...api.Core) api.Core {
	return api.Core{Kind: api.CCall, Parts: parts}
}

// binding is a CLet or a CLetrec.
func binding(kind int, names []string, values []api.Core, body api.Core) api.Core {
	return api.Core{Kind: kind, Names: names, Parts: append(values, body)}
}

// recursive is a CLetrec of one name, whose body is that name.
func recursive(name string, value api.Core) api.Core {
	return binding(api.CLetrec, []string{strings.Clone(name)}, []api.Core{value}, variable(name))
}

// keeping is a CLet of T.
func keeping(a, body api.Core) api.Core {
	return binding(api.CLet, []string{kept}, []api.Core{a}, body)
}

// keptChoice is a choice, whose parts find in T what they were chosen by.
func keptChoice(a, b, c api.Core) api.Core {
	return keeping(a, choice(variable(kept), b, c))
}

// sequence is the SEQ of terms.
func sequence(l []api.Core) api.Core {
	if len(l) == 1 {
		return l[0]
	}
	return api.Core{Kind: api.CSeq, Parts: l}
}
