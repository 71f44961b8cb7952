package verify_test

import (
	"strings"

	"distaff/api"
	"distaff/code"
)

// A second layer 11, which goes by the table of instructions, and asks anew for the lowest instruction each time.

// count is a number of the table: as it stands there, or by what an instruction, its procedure and the program have.
func count(text string, x api.Instr, p api.Proc, c api.Code) int {
	switch text {
	case "a+1":
		return x.A + 1
	case "2a+2":
		return x.A + x.A + 2
	case "free":
		if x.Op != api.IClosure {
			return p.Free
		}
		return c.Procs[x.A].Free
	case "consts":
		return len(c.Consts)
	case "slots":
		return p.Slots
	case "globals":
		return len(c.Globals)
	case "procs":
		return len(c.Procs)
	case "instrs":
		return len(p.Code)
	case "clauses":
		return 21
	case "prims":
		return 118
	case "-":
		return 1 << 24
	}
	return number(text)
}

// second is the flaw of a procedure, and its DEPTHS as far as they came to be known.
func second(c api.Code, n int, table []row) (api.Flaw, map[int]int) {
	p := c.Procs[n]
	least := p.Params
	if p.Rest {
		least++
	}
	if least > p.Slots || p.Slots > 180-p.Depth || p.Free >= 181 {
		return api.Flaw{Err: 113, Proc: n}, nil
	}
	if p.Code == nil || len(p.Code) < 1 {
		return api.Flaw{Err: 114, Proc: n}, nil
	}
	for at, x := range p.Code {
		if x.Op >= len(table) {
			return api.Flaw{Err: 111, Proc: n, At: at}, nil
		}
		name := table[x.Op].name
		if x.A >= count(table[x.Op].bound, x, p, c) || name == "perform" && c.Consts[x.A].Kind != api.DSym || name == "handle" && x.B >= 4 {
			return api.Flaw{Err: 112, Proc: n, At: at}, nil
		}
	}
	known, looked := map[int]int{0: 0}, map[int]bool{}
	for {
		at := 0
		for at < len(p.Code) {
			if _, ok := known[at]; ok && !looked[at] {
				break
			}
			at++
		}
		if at == len(p.Code) {
			return api.Flaw{}, known
		}
		looked[at] = true
		if e := secondLook(c, p, at, known, table); e != 0 {
			return api.Flaw{Err: e, Proc: n, At: at}, nil
		}
	}
}

// secondLook looks at one instruction.
func secondLook(c api.Code, p api.Proc, at int, known map[int]int, table []row) api.Errno {
	x := p.Code[at]
	r := table[x.Op]
	takes, puts := count(r.takes, x, p, c), count(r.puts, x, p, c)
	now := known[at] - takes + puts
	if takes > known[at] || now > p.Depth {
		return 113
	}
	for follow := range strings.SplitSeq(r.follow, ",") {
		next := map[string]int{"next": at + 1, "a": x.A, "-": -1}[follow]
		before, ok := known[next]
		switch {
		case next < 0:
		case next >= len(p.Code):
			return 114
		case ok && before != now:
			return 113
		default:
			known[next] = now
		}
	}
	return 0
}

// secondCheck is Check.
func secondCheck(c api.Code) api.Flaw {
	if !code.Right(c) {
		return api.Flaw{Err: 101}
	}
	if len(c.Procs) == 0 || c.Procs[0].Params > 0 || c.Procs[0].Rest || c.Procs[0].Free > 0 {
		return api.Flaw{Err: 112}
	}
	table := rows()
	for n := range c.Procs {
		if flaw, _ := second(c, n, table); flaw.Err != 0 {
			return flaw
		}
	}
	return api.Flaw{}
}

// secondDepths is Depths.
func secondDepths(c api.Code, n int) []int {
	if n < 0 || n >= len(c.Procs) || secondCheck(c).Err != 0 {
		return nil
	}
	_, known := second(c, n, rows())
	var l []int
	for at := range c.Procs[n].Code {
		depth, ok := known[at]
		if !ok {
			depth = -1
		}
		l = append(l, depth)
	}
	return l
}
