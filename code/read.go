package code

import (
	"distaff/api"
	"distaff/datum"
	"distaff/reader"
)

// reading is how far bytes have been read.
type reading struct {
	left   []byte // those that weren't yet
	code   api.Code
	instrs int // how many there are up to here
}

// A part reads what stands next, and asks whether it can stand there. Each asks for
// its own bounds, so that all of them together leave no program that isn't RIGHT.
type part func(r *reading) bool

// Read: the program of bytes.
func Read(b []byte) (api.Code, api.Errno) {
	r := reading{left: b}
	for _, read := range []part{(*reading).consts, (*reading).globals, (*reading).procs, (*reading).end} {
		if !read(&r) {
			return api.Code{}, api.ErrCode
		}
	}
	return r.code, api.OK
}

// consts reads the constants.
func (r *reading) consts() bool {
	return r.list(api.MaxList, (*reading).constant)
}

// globals reads the global names.
func (r *reading) globals() bool {
	return r.list(api.MaxList, (*reading).global)
}

// procs reads the procedures.
func (r *reading) procs() bool {
	return r.list(api.MaxList, (*reading).proc)
}

// end asks whether nothing stands behind the program.
func (r *reading) end() bool {
	return len(r.left) == 0
}

// list reads how many there are, and each one.
func (r *reading) list(most int, one part) bool {
	var n int
	if !r.num(&n, most) {
		return false
	}
	for range n {
		if !one(r) {
			return false
		}
	}
	return true
}

// constant reads a constant. A text is that of a program's bytes only as Print
// writes it: of all others there is a datum, too, but no program has these bytes.
func (r *reading) constant() bool {
	var text string
	if !r.text(&text, api.MaxText) {
		return false
	}
	data, _ := reader.Read([]byte(text))
	if len(data) != 1 {
		return false
	}
	r.code.Consts = append(r.code.Consts, data[0])
	printed, e := datum.Print(data[0])
	return e == api.OK && printed == text
}

// global reads a global name.
func (r *reading) global() bool {
	var name string
	ok := r.text(&name, maxName)
	r.code.Globals = append(r.code.Globals, name)
	return ok
}

// proc reads a procedure.
func (r *reading) proc() bool {
	r.code.Procs = append(r.code.Procs, api.Proc{})
	p := r.last()
	return r.text(&p.Name, maxName) && r.num(&p.Params, api.MaxNum) && r.truth(&p.Rest) &&
		r.num(&p.Slots, api.MaxNum) && r.num(&p.Depth, api.MaxNum) && r.num(&p.Free, api.MaxNum) &&
		r.list(api.MaxInstrs-r.instrs, (*reading).instr)
}

// last is the procedure that was begun last.
func (r *reading) last() *api.Proc {
	return &r.code.Procs[len(r.code.Procs)-1]
}

// instr reads an instruction of the last procedure.
func (r *reading) instr() bool {
	var x api.Instr
	ok := r.num(&x.Op, api.MaxNum) && r.num(&x.A, api.MaxNum) && r.num(&x.B, api.MaxNum)
	p := r.last()
	p.Code = append(p.Code, x)
	r.instrs++
	return ok
}

// truth reads the number that stands for a truth.
func (r *reading) truth(b *bool) bool {
	var n int
	ok := r.num(&n, 1)
	*b = n == 1
	return ok
}

// text reads a TEXT that has no more bytes than most.
func (r *reading) text(s *string, most int) bool {
	var n int
	if !r.num(&n, most) || n > len(r.left) {
		return false
	}
	*s = string(r.left[:n])
	r.left = r.left[n:]
	return true
}

// num reads a NUM that isn't above most.
func (r *reading) num(n *int, most int) bool {
	if len(r.left) < numBytes {
		return false
	}
	*n = int(r.left[0])<<16 | int(r.left[1])<<8 | int(r.left[2])
	r.left = r.left[numBytes:]
	return *n <= most
}
