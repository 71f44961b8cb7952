package verify_test

import (
	"math"
	"slices"
	"strconv"
	"strings"
	"testing"

	"distaff/api"
	"distaff/verify"
)

// P11.1, the DEPTHS, and P11.2.

// effect is an instruction, and how many words it takes and puts.
type effect struct {
	text        string
	takes, puts int
}

// holder is a program of procedures that have 0, 2, 1 and 5 free values; procedure 1 is left to be filled.
func holder(depth int, text string) api.Code {
	five := proc(0, "jump 0")
	five.Free = 5
	one := proc(0, "jump 0")
	one.Free = 1
	return sample(main(0, "jump 0"), proc(depth, text), one, five)
}

// effects is those of all instructions but of IJump, in procedure 1 of a holder.
func effects() []effect {
	l := []effect{
		{"const 1", 0, 1}, {"local 2", 0, 1}, {"setlocal 3", 1, 0}, {"free 1", 0, 1}, {"global 2", 0, 1}, {"setglobal 1", 1, 0}, {"defglobal 2", 1, 0}, {"box", 1, 1}, {"box 9 9", 1, 1}, {"unbox", 1, 1}, {"setbox", 2, 0}, {"setbox 5 5", 2, 0}, {"closure 0", 0, 1}, {"closure 1", 2, 1}, {"closure 2", 1, 1}, {"closure 3 7", 5, 1}, {"return", 1, 0}, {"return 3 3", 1, 0}, {"pop", 1, 0}, {"pop 4 4", 1, 0}, {"perform 4", 1, 1}, {"void", 0, 1}, {"void 6 6", 0, 1}, {"prim 117", 0, 1}, {"fresh", 0, 1}, {"fresh 8 8", 0, 1},
	}
	for a := range 30 {
		l = append(l, effect{"call " + strconv.Itoa(a), a + 1, 1}, effect{"call " + strconv.Itoa(a) + " 5", a + 1, 1}, effect{"tail " + strconv.Itoa(a), a + 1, 0})
	}
	for a := range 21 {
		for b := range 4 {
			l = append(l, effect{"handle " + strconv.Itoa(a) + " " + strconv.Itoa(b), 2*a + 2, 1})
		}
	}
	return l
}

// ends asks whether no instruction follows.
func ends(text string) bool {
	return strings.HasPrefix(text, "return") || strings.HasPrefix(text, "tail") || strings.HasPrefix(text, "jump")
}

// upTo is 0, 1 and so on up to n.
func upTo(n int) []int {
	var l []int
	for i := range n + 1 {
		l = append(l, i)
	}
	return l
}

// voids is a text that puts n words.
func voids(n int) string {
	return strings.Repeat("void; ", n)
}

func TestWordsThatInstructionsTakeAndPut(t *testing.T) {
	for _, x := range effects() {
		for more := range 4 {
			at := more + x.takes
			text := voids(at) + x.text + "; jump " + strconv.Itoa(at+1)
			behind := more + x.puts
			if ends(x.text) {
				behind = -1
			}
			deep(t, holder(max(at, behind), text), 1, append(upTo(at), behind)...)
			deep(t, holder(max(at, behind)+1, text), 1, append(upTo(at), behind)...)
		}
	}
}

func TestTooFewWords(t *testing.T) {
	for _, x := range effects() {
		for words := range x.takes {
			text := voids(words) + x.text + "; void; return"
			flawed(t, holder(100, text), api.ErrStack, 1, words)
			flawed(t, holder(words, text), api.ErrStack, 1, words)
		}
	}
	for _, text := range []string{"branch 1", "branch 0", "branch 2"} {
		flawed(t, alone(9, text+"; void; return"), api.ErrStack, 0, 0)
	}
}

func TestTooManyWords(t *testing.T) {
	for _, x := range effects() {
		for more := range 4 {
			at := more + x.takes
			if x.puts > x.takes {
				flawed(t, holder(at, voids(at)+x.text+"; jump 0"), api.ErrStack, 1, at)
				flawed(t, holder(at, voids(at)+x.text), api.ErrStack, 1, at)
			}
			if at > 0 {
				flawed(t, holder(at-1, voids(at)+x.text+"; jump 0"), api.ErrStack, 1, at-1)
			}
		}
	}
	for depth := range 180 {
		p := api.Proc{Depth: depth, Code: instrs(voids(depth) + "jump " + strconv.Itoa(depth))}
		deep(t, sample(p), 0, upTo(depth)...)
		p.Code = instrs(voids(depth+1) + "jump 0")
		flawed(t, sample(p), api.ErrStack, 0, depth)
	}
}

// Free is that of the procedure that is made a closure of, whatever it is.
func TestWordsOfClosures(t *testing.T) {
	for _, free := range []int{0, 1, 3, 150, 180} {
		lambda := api.Proc{Free: free, Code: instrs("jump 0")}
		begin := func(words int) api.Proc {
			return api.Proc{Depth: 180, Code: instrs(voids(words) + "closure 1; return")}
		}
		if free > 0 {
			flawed(t, sample(begin(free-1), lambda), api.ErrStack, 0, free-1)
		}
		if free > 0 {
			deep(t, sample(begin(free), lambda), 0, append(upTo(free), 1)...)
		} else {
			deep(t, sample(begin(free), lambda), 0, 0, 1)
		}
	}
	for _, free := range []int{181, 65536, api.MaxNum} {
		lambda := api.Proc{Free: free, Code: instrs("jump 0")}
		flawed(t, sample(main(2, "void; closure 1; return"), lambda), api.ErrStack, 0, 1)
		flawed(t, sample(main(2, "void; return; closure 1"), lambda), api.ErrStack, 1, 0)
	}
	for _, a := range []int{1, 179, 180, 65536, api.MaxNum} {
		flawed(t, sample(main(2, "void; call "+strconv.Itoa(a)+"; return")), api.ErrStack, 0, 1)
		flawed(t, sample(main(2, "void; tail "+strconv.Itoa(a))), api.ErrStack, 0, 1)
	}
}

func TestEndOfAProcedure(t *testing.T) {
	for _, x := range effects() {
		for more := range 3 {
			at := more + x.takes
			text := voids(at) + x.text
			if ends(x.text) {
				deep(t, holder(at, text), 1, upTo(at)...)
			} else {
				flawed(t, holder(at+1, text), api.ErrEnd, 1, at)
			}
			if x.takes > 0 {
				flawed(t, holder(at+1, voids(x.takes-1)+x.text), api.ErrStack, 1, x.takes-1)
			}
		}
	}
	deep(t, alone(0, "jump 0"), 0, 0)
	deep(t, alone(2, "void; void; jump 2"), 0, 0, 1, 2)
	deep(t, alone(1, "void; jump 1"), 0, 0, 1)
	deep(t, alone(1, "void; pop; jump 0"), 0, 0, 1, 0)
	deep(t, alone(1, "void; return; void"), 0, 0, 1, -1)
	deep(t, alone(1, "void; return; branch 0"), 0, 0, 1, -1)
	deep(t, alone(1, "jump 2; void; jump 0; void"), 0, 0, -1, 0, -1)
}

// The end is told of ahead of what the DEPTH of A says, and behind what an instruction takes and puts.
func TestBranchAtTheEnd(t *testing.T) {
	flawed(t, alone(1, "void; branch 0"), api.ErrEnd, 0, 1)
	flawed(t, alone(1, "void; branch 1"), api.ErrEnd, 0, 1)
	flawed(t, alone(2, "void; void; branch 0"), api.ErrEnd, 0, 2)
	flawed(t, alone(2, "void; void; branch 1"), api.ErrEnd, 0, 2)
	flawed(t, alone(2, "void; void; branch 2"), api.ErrEnd, 0, 2)
	flawed(t, alone(1, "jump 2; void; void; branch 1"), api.ErrEnd, 0, 3)
	flawed(t, alone(1, "branch 0"), api.ErrStack, 0, 0)
	flawed(t, alone(1, "jump 1; branch 0"), api.ErrStack, 0, 1)
	flawed(t, alone(0, "void"), api.ErrStack, 0, 0)
	flawed(t, alone(1, "void"), api.ErrEnd, 0, 0)
}

func TestWhatFollows(t *testing.T) {
	for _, x := range []struct {
		text  string
		depth int
		want  []int
	}{
		{"void; return", 1, []int{0, 1}},
		{"jump 1; void; return", 1, []int{0, 0, 1}},
		{"jump 2; pop; jump 0", 0, []int{0, -1, 0}},
		{"void; jump 3; pop; return", 1, []int{0, 1, -1, 1}},
		{"prim 0; const 0; tail 1; void; pop; pop", 2, []int{0, 1, 2, -1, -1, -1}},
		{"void; return; jump 0; jump 1; branch 2", 1, []int{0, 1, -1, -1, -1}},
		{"jump 0; void; jump 1", 0, []int{0, -1, -1}},
		{"void; branch 4; void; return; void; void; pop; return", 2, []int{0, 1, 0, 1, 0, 1, 2, 1}},
		{"void; branch 2; void; return", 1, []int{0, 1, 0, 1}},
		{"void; void; branch 5; return; void; return", 2, []int{0, 1, 2, 1, -1, 1}},
		{"jump 3; void; return; jump 1", 1, []int{0, 0, 1, 0}},
		{"jump 4; void; return; jump 1; jump 3", 1, []int{0, 0, 1, 0, 0}},
		{"jump 5; return; pop; jump 1; void; void; void; void; branch 2; return", 3, []int{0, 1, 2, 1, -1, 0, 1, 2, 3, 2}},
	} {
		deep(t, alone(x.depth, x.text), 0, x.want...)
		deep(t, holder(x.depth, x.text), 1, x.want...)
	}
}

func TestWaysThatMeet(t *testing.T) {
	for _, x := range []struct {
		text string
		want []int
	}{
		{"void; branch 4; void; jump 5; fresh; return", []int{0, 1, 0, 1, 0, 1}},
		{"void; branch 3; jump 4; jump 4; void; return", []int{0, 1, 0, 0, 0, 1}},
		{"void; branch 0; void; return", []int{0, 1, 0, 1}},
		{"void; void; branch 1; return", []int{0, 1, 2, 1}},
		{"void; pop; void; jump 1", []int{0, 1, 0, 1}},
		{"void; jump 1", []int{0, 1}},
		{"jump 3; void; return; void; branch 1; jump 1", []int{0, 0, 1, 0, 1, 0}},
		{"void; void; jump 4; pop; pop; jump 1; jump 0", []int{0, 1, 2, -1, 2, 1, -1}},
	} {
		deep(t, alone(3, x.text), 0, x.want...)
	}
}

// The flaw is where the second way comes from, not where it comes to.
func TestUnlikeWaysThatMeet(t *testing.T) {
	for _, x := range []struct {
		text string
		at   int
	}{
		// forwards: to the next one, by a jump, by a branch; the way that skips something may be the second one, too
		{"void; branch 3; void; return", 2},
		{"void; branch 4; void; jump 4; return", 3},
		{"void; branch 6; void; void; branch 6; return; void; return", 4},
		{"void; branch 3; jump 4; void; return", 3},
		{"void; branch 5; void; void; jump 6; void; return", 5},
		// backwards: to what was looked at, also since it was come to backwards itself
		{"void; jump 0", 1},
		{"void; void; jump 4; pop; pop; jump 0", 5},
		{"void; void; branch 0; return", 2},
		{"void; branch 2; void; void; branch 2; return", 4},
		{"jump 3; void; return; void; branch 1; void; jump 1", 6},
		{"jump 3; void; jump 3; void; branch 1; jump 5", 2},
		// to itself
		{"void; branch 1; jump 2", 1},
		{"void; void; branch 2; return", 2},
	} {
		flawed(t, alone(3, x.text), api.ErrStack, 0, x.at)
		flawed(t, holder(3, x.text), api.ErrStack, 1, x.at)
	}
}

// Of several flaws the one is told that is met first, where the lowest instruction that is known is looked at first.
func TestLowestIsFirst(t *testing.T) {
	for _, x := range []struct {
		text string
		at   int
	}{
		{"void; branch 4; pop; return; pop", 2},
		{"jump 3; pop; return; void; branch 1; pop", 1},
		{"jump 3; pop; return; void; branch 1; void; void; void; void", 1},
		{"jump 3; pop; return; void; branch 1; void", 1},                      // not ErrEnd at 5
		{"jump 4; void; jump 4; return; void; branch 1; pop", 2},              // 2 comes to 4 with unlike words, 6 would have too few
		{"jump 5; void; jump 7; pop; return; void; branch 1; pop; return", 2}, // likewise of 7
		{"void; branch 4; void; jump 5; jump 5; return", 4},                   // 3 has come to 5 ahead of 4
	} {
		flawed(t, alone(3, x.text), api.ErrStack, 0, x.at)
		flawed(t, holder(3, x.text), api.ErrStack, 1, x.at)
	}
}

func TestDepthsOfProceduresThatAreNotThere(t *testing.T) {
	for _, c := range []api.Code{full(), alone(1, "void; return"), sample(main(0, "jump 0"), proc(1, "void; return"))} {
		flawless(t, c)
		n := len(c.Procs)
		for _, proc := range []int{-1, -2, -n, n, n + 1, 2 * n, 4000, math.MinInt, math.MaxInt, math.MinInt + n, 1 << 32, -1 << 32} {
			if l := verify.Depths(c, proc); len(l) > 0 {
				t.Errorf("%s: DEPTHS %v of procedure %d", told(c), l, proc)
			}
		}
	}
	for _, proc := range []int{-1, 0, 1} {
		if l := verify.Depths(api.Code{}, proc); len(l) > 0 {
			t.Errorf("DEPTHS %v of procedure %d", l, proc)
		}
	}
}

func TestDepthsOfAllProcedures(t *testing.T) {
	deep(t, full(), 0, 0, 1, 2, 1, 0, 1, 0, 1, 0, 1, 2, 2, 3, 4, 5, 4, 1, 0, 1, 0, 1, 1, 1, 1, 0, -1, 0, 1, -1, -1)
	deep(t, full(), 1, 0, 1, 2, 0)
	deep(t, full(), 2, 0, 1, 0, 1, 0, 1, 2, 1, 0, 1, -1)
	deep(t, full(), 3, 0, 1, 2, 1)
}

// A flaw in any procedure leaves none with DEPTHS.
func TestDepthsOfProgramsWithAFlaw(t *testing.T) {
	for i, at := range []int{13, 1, 5, 1} {
		c := full()
		c.Procs[i].Depth--
		flawed(t, c, api.ErrStack, i, at)
		c = full()
		c.Procs[i].Code = append(c.Procs[i].Code, instrs("22")...)
		flawed(t, c, api.ErrOp, i, len(c.Procs[i].Code)-1)
	}
}

func TestDepthsOfManyInstructions(t *testing.T) {
	const most = 40000
	up := alone(1, strings.Repeat("void; pop; ", most/2-1)+"void; return")
	deep(t, up, 0, slices.Repeat([]int{0, 1}, most/2)...)
	up.Procs[0].Code[most-1].Op = api.IPop
	flawed(t, up, api.ErrEnd, 0, most-1)

	down := main(1, strings.Repeat("jump 0; ", most-2)+"void; return")
	down.Code[0].A = most - 3
	for at := 1; at < most-2; at++ {
		down.Code[at].A = at - 1
	}
	down.Code[1].A = most - 2
	deep(t, sample(down), 0, append(make([]int, most-1), 1)...)
	down.Code[1].A = most - 1
	flawed(t, sample(down), api.ErrStack, 0, most-1)

	wide := main(1, strings.Repeat("void; branch 0; ", most/2-1)+"void; return")
	for at := 1; at < most-2; at += 2 {
		wide.Code[at].A = (at + 1 + 2*((at*7919)%most)) % most
	}
	deep(t, sample(wide), 0, slices.Repeat([]int{0, 1}, most/2)...)
}
