package rules

import (
	"testing"

	"distaff/api"
)

// The document's section Words, in its order.

func TestLimits(t *testing.T) {
	limits := []struct {
		name      string
		got, want int
	}{
		{"MaxLimbs", api.MaxLimbs, 64}, {"MaxPower", api.MaxPower, 1000}, {"MaxStr", api.MaxStr, 400},
		{"MaxVec", api.MaxVec, 200}, {"MaxName", api.MaxName, 40}, {"MaxDeep", api.MaxDeep, 60},
		{"MaxNodes", api.MaxNodes, 3000}, {"MaxText", api.MaxText, 20000}, {"MaxSteps", api.MaxSteps, 2000},
		{"MaxNum", api.MaxNum, 16777215}, {"MaxList", api.MaxList, 4000}, {"MaxInstrs", api.MaxInstrs, 40000},
		{"MaxFrame", api.MaxFrame, 180}, {"MaxClauses", api.MaxClauses, 20}, {"MaxBlocks", api.MaxBlocks, 4096},
		{"BlockWords", api.BlockWords, 256}, {"LineWords", api.LineWords, 16}, {"MaxObject", api.MaxObject, 240},
		{"KindStack", api.KindStack, 15}, {"MaxShow", api.MaxShow, 2000}, {"MaxEqual", api.MaxEqual, 10000},
		{"MaxOctets", api.MaxOctets, 800}, {"MaxTable", api.MaxTable, 100}, {"MaxWalk", api.MaxWalk, 10000},
		{"MaxOut", api.MaxOut, 4000}, {"MaxAgenda", api.MaxAgenda, 1000}, {"MaxPlans", api.MaxPlans, 100},
	}
	for _, l := range limits {
		if l.got != l.want {
			t.Errorf("%s: %d, not %d", l.name, l.got, l.want)
		}
	}
}

func TestErrors(t *testing.T) {
	errors := []struct {
		name string
		got  api.Errno
		want int
	}{
		{"OK", api.OK, 0}, {"ErrBig", api.ErrBig, 11}, {"ErrZero", api.ErrZero, 12}, {"ErrText", api.ErrText, 13},
		{"ErrPower", api.ErrPower, 21}, {"ErrFloat", api.ErrFloat, 31}, {"ErrKind", api.ErrKind, 41},
		{"ErrDatum", api.ErrDatum, 51}, {"ErrRead", api.ErrRead, 61}, {"ErrOpen", api.ErrOpen, 62},
		{"ErrClose", api.ErrClose, 63}, {"ErrDeep", api.ErrDeep, 64}, {"ErrLong", api.ErrLong, 65},
		{"ErrMacro", api.ErrMacro, 71}, {"ErrMatch", api.ErrMatch, 72}, {"ErrSteps", api.ErrSteps, 73},
		{"ErrSyntax", api.ErrSyntax, 81}, {"ErrScope", api.ErrScope, 82}, {"ErrBind", api.ErrBind, 83},
		{"ErrDefine", api.ErrDefine, 84}, {"ErrCode", api.ErrCode, 101}, {"ErrOp", api.ErrOp, 111},
		{"ErrIndex", api.ErrIndex, 112}, {"ErrStack", api.ErrStack, 113}, {"ErrEnd", api.ErrEnd, 114},
		{"ErrFrame", api.ErrFrame, 121}, {"ErrArena", api.ErrArena, 141}, {"ErrHeap", api.ErrHeap, 151},
		{"ErrValue", api.ErrValue, 181}, {"ErrTable", api.ErrTable, 191}, {"ErrKey", api.ErrKey, 192},
		{"ErrUsed", api.ErrUsed, 201}, {"ErrFiber", api.ErrFiber, 202}, {"ErrPrim", api.ErrPrim, 211},
		{"ErrMachine", api.ErrMachine, 221},
	}
	for _, e := range errors {
		if e.got != api.Errno(e.want) {
			t.Errorf("%s: %d, not %d", e.name, e.got, e.want)
		}
	}
}
