package code

import (
	"distaff/api"
	"distaff/datum"
)

// numBytes is how many a NUM takes.
const numBytes = 3

// Bytes: a program as bytes.
func Bytes(c api.Code) ([]byte, api.Errno) {
	if !Right(c) {
		return nil, api.ErrCode
	}
	b := appendNum(nil, len(c.Consts))
	for _, d := range c.Consts {
		text, _ := datum.Print(d)
		b = appendText(b, text)
	}
	b = appendNum(b, len(c.Globals))
	for _, name := range c.Globals {
		b = appendText(b, name)
	}
	b = appendNum(b, len(c.Procs))
	for _, p := range c.Procs {
		b = appendProc(b, p)
	}
	return b, api.OK
}

// appendProc lays a procedure behind some bytes.
func appendProc(b []byte, p api.Proc) []byte {
	b = appendText(b, p.Name)
	b = appendNum(b, p.Params)
	b = appendNum(b, truth(p.Rest))
	b = appendNum(b, p.Slots)
	b = appendNum(b, p.Depth)
	b = appendNum(b, p.Free)
	b = appendNum(b, len(p.Code))
	for _, x := range p.Code {
		b = appendNum(b, x.Op)
		b = appendNum(b, x.A)
		b = appendNum(b, x.B)
	}
	return b
}

// appendText lays a TEXT behind some bytes.
func appendText(b []byte, s string) []byte {
	return append(appendNum(b, len(s)), s...)
}

// appendNum lays a NUM behind some bytes.
func appendNum(b []byte, n int) []byte {
	return append(b, byte(n>>16), byte(n>>8), byte(n))
}

// truth is the number that stands for a truth.
func truth(b bool) int {
	if b {
		return 1
	}
	return 0
}
