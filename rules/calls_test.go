package rules

// Each call that a chapter lists stands here as it is listed there: without one, or with another signature, this file does not build.

import (
	"distaff/agenda"
	"distaff/api"
	"distaff/arena"
	"distaff/code"
	"distaff/collect"
	"distaff/compile"
	"distaff/core"
	"distaff/datum"
	"distaff/exact"
	"distaff/fiber"
	"distaff/flo"
	"distaff/free"
	"distaff/heap"
	"distaff/limb"
	"distaff/macro"
	"distaff/prelude"
	"distaff/prim"
	"distaff/reader"
	"distaff/table"
	"distaff/tower"
	"distaff/value"
	"distaff/verify"
	"distaff/vm"
	"distaff/word"
	"distaff/world"
)

// limb
var (
	_ func(a []uint32) []uint32                           = limb.Trim
	_ func(a, b []uint32) int                             = limb.Cmp
	_ func(a, b []uint32) ([]uint32, api.Errno)           = limb.Add
	_ func(a, b []uint32) ([]uint32, bool)                = limb.Sub
	_ func(a, b []uint32) ([]uint32, api.Errno)           = limb.Mul
	_ func(a, b []uint32) ([]uint32, []uint32, api.Errno) = limb.Div
	_ func(n uint64) []uint32                             = limb.Of
	_ func(a []uint32) (uint64, bool)                     = limb.Small
	_ func(a []uint32) string                             = limb.Text
	_ func(s string) ([]uint32, api.Errno)                = limb.Parse
)

// exact
var (
	_ func(x api.Int) bool                             = exact.Right
	_ func(a, b api.Int) bool                          = exact.Same
	_ func(n int) api.Int                              = exact.Of
	_ func(x api.Int) (int, bool)                      = exact.Small
	_ func(a, b api.Int) int                           = exact.Cmp
	_ func(x api.Int) api.Int                          = exact.Neg
	_ func(a, b api.Int) (api.Int, api.Errno)          = exact.Add
	_ func(a, b api.Int) (api.Int, api.Errno)          = exact.Sub
	_ func(a, b api.Int) (api.Int, api.Errno)          = exact.Mul
	_ func(a, b api.Int) (api.Int, api.Int, api.Errno) = exact.Quo
	_ func(a, b api.Int) (api.Int, api.Errno)          = exact.Mod
	_ func(a, b api.Int) api.Int                       = exact.Gcd
	_ func(a, n api.Int) (api.Int, api.Errno)          = exact.Pow
	_ func(x api.Int) string                           = exact.Text
	_ func(s string) (api.Int, api.Errno)              = exact.Parse
)

// flo
var (
	_ func(f float64) uint64                 = flo.Bits
	_ func(a, b float64) bool                = flo.Same
	_ func(f float64) string                 = flo.Text
	_ func(s string) (float64, api.Errno)    = flo.Parse
	_ func(x api.Int) float64                = flo.Of
	_ func(f float64) (api.Int, api.Errno)   = flo.Exact
	_ func(x api.Int, f float64) (int, bool) = flo.Cmp
	_ func(f float64) float64                = flo.Round
)

// tower
var (
	_ func(a api.Num) bool                            = tower.Right
	_ func(a, b api.Num) bool                         = tower.Same
	_ func(n int) api.Num                             = tower.Int
	_ func(f float64) api.Num                         = tower.Flo
	_ func(a, b api.Num) (api.Num, api.Errno)         = tower.Add
	_ func(a, b api.Num) (api.Num, api.Errno)         = tower.Sub
	_ func(a, b api.Num) (api.Num, api.Errno)         = tower.Mul
	_ func(a, b api.Num) (api.Num, api.Errno)         = tower.Div
	_ func(a, b api.Num) (int, bool)                  = tower.Cmp
	_ func(op int, a, b api.Num) (api.Num, api.Errno) = tower.Whole
	_ func(op int, a api.Num) (api.Num, api.Errno)    = tower.One
	_ func(a api.Num) string                          = tower.Text
	_ func(s string) (api.Num, api.Errno)             = tower.Parse
)

// datum
var (
	_ func(s string) bool                   = datum.Name
	_ func(d api.Datum) bool                = datum.Right
	_ func(a, b api.Datum) bool             = datum.Same
	_ func(d api.Datum) int                 = datum.Nodes
	_ func(d api.Datum) api.Datum           = datum.Copy
	_ func(d api.Datum) (string, api.Errno) = datum.Print
	_ func(n int) api.Datum                 = datum.Num
	_ func(s string) api.Datum              = datum.Sym
	_ func(l ...api.Datum) api.Datum        = datum.List
)

// reader
var (
	_ func(b []byte) ([]api.Datum, api.Fault) = reader.Read
)

// macro
var (
	_ func(l []api.Datum) ([]api.Datum, api.Fault) = macro.Expand
)

// core
var (
	_ func(l []api.Datum) ([]api.Core, api.Fault) = core.Make
	_ func(a, b api.Core) bool                    = core.Same
	_ func(c api.Core) int                        = core.Size
)

// free
var (
	_ func(l []api.Core) []api.Core = free.Unique
	_ func(c api.Core) []string     = free.Free
	_ func(c api.Core) []string     = free.Assigned
)

// code
var (
	_ func(c api.Code) bool                    = code.Right
	_ func(a, b api.Code) bool                 = code.Same
	_ func(c api.Code) ([]byte, api.Errno)     = code.Bytes
	_ func(b []byte) (api.Code, api.Errno)     = code.Read
	_ func(x api.Instr, c api.Code) (int, int) = code.Effect
)

// verify
var (
	_ func(c api.Code) api.Flaw        = verify.Check
	_ func(c api.Code, proc int) []int = verify.Depths
)

// compile
var (
	_ func(l []api.Core) (api.Code, api.Errno) = compile.Make
)

// word
var (
	_ func(n int) (api.Word, bool) = word.Small
	_ func(n int) api.Word         = word.Place
	_ func(n int) api.Word         = word.Char
	_ func(n int) api.Word         = word.Symbol
	_ func(n int) api.Word         = word.Prim
	_ func(n int) api.Word         = word.Single
	_ func(w api.Word) int         = word.Kind
	_ func(w api.Word) int         = word.Value
	_ func(w api.Word) bool        = word.Right
	_ func() int                   = word.Least
	_ func() int                   = word.Most
)

// arena
var (
	_ func(blocks int) *arena.Arena = arena.New
	_ interface {
		Blocks() int
		Get(at int) (api.Word, api.Errno)
		Set(at int, w api.Word) api.Errno
		Alloc(n int) (int, bool)
		Fresh(n int) (int, bool)
		Mark(at, n int)
		Sweep()
		Free(block int) int
		Empty() int
	} = (*arena.Arena)(nil)
)

// heap
var (
	_ func(blocks int) *heap.Heap = heap.New
	_ func(kind int) bool         = heap.Raw
	_ interface {
		Arena() *arena.Arena
		Make(kind, n int) (api.Word, bool)
		Kind(w api.Word) int
		Size(w api.Word) int
		Get(w api.Word, i int) (api.Word, api.Errno)
		Set(w api.Word, i int, v api.Word) api.Errno
		Pin(w api.Word) bool
		Unpin(w api.Word) bool
		Pinned(w api.Word) bool
		Move(w api.Word) (api.Word, bool)
		Moved(w api.Word) (api.Word, bool)
	} = (*heap.Heap)(nil)
)

// collect
var (
	_ func(h *heap.Heap, roots [][]api.Word, p api.Plan) api.Report = collect.Run
)

// agenda
var (
	_ func() *agenda.Agenda = agenda.New
	_ interface {
		Add(time int, w api.Word)
		Next() (int, api.Word, bool)
		Len() int
		Words() []api.Word
		Put(l []api.Word) bool
	} = (*agenda.Agenda)(nil)
)

// value
var (
	_ func(blocks int) *value.Space = value.New
	_ interface {
		Heap() *heap.Heap
		Symbol(name string) api.Word
		Name(w api.Word) string
		Num(n api.Num) (api.Word, bool)
		AsNum(w api.Word) (api.Num, bool)
		Text(signs []int) (api.Word, bool)
		AsText(w api.Word) ([]int, bool)
		Octets(b []byte) (api.Word, bool)
		AsOctets(w api.Word) ([]byte, bool)
		Object(kind int, fields ...api.Word) (api.Word, bool)
		Datum(d api.Datum) (api.Word, bool)
		Read(w api.Word) (api.Datum, api.Errno)
		Show(w api.Word, write bool) (string, api.Errno)
		Eqv(a, b api.Word) bool
		Equal(a, b api.Word) (bool, api.Errno)
	} = (*value.Space)(nil)
)

// table
var (
	_ func(s *value.Space) (api.Word, bool)                             = table.New
	_ func(s *value.Space, t, key api.Word) (api.Word, bool, api.Errno) = table.Ref
	_ func(s *value.Space, t, key, v api.Word) (bool, api.Errno)        = table.Set
	_ func(s *value.Space, t, key api.Word) (bool, api.Errno)           = table.Delete
	_ func(s *value.Space, t api.Word) (int, api.Errno)                 = table.Count
	_ func(s *value.Space, t api.Word) ([]api.Word, api.Errno)          = table.Keys
)

// fiber
var (
	_ func(s *value.Space, remember bool) (*fiber.Stack, bool) = fiber.New
	_ interface {
		Roots() []api.Word
		Push(closure api.Word, slots, words int) bool
		Pop() bool
		Frames() int
		Fibers() int
		Closure() api.Word
		PC() int
		SetPC(n int)
		Slot(i int) api.Word
		SetSlot(i int, w api.Word) bool
		Put(w api.Word) bool
		Take() api.Word
		Words() int
		Enter(deep bool, ret api.Word, labels, procs []api.Word) bool
		Leave() (api.Word, bool)
		Find(label api.Word) (int, api.Word, bool)
		Capture(up int) (api.Word, bool)
		Resume(r api.Word) api.Errno
		Clone(r api.Word) (api.Word, bool, api.Errno)
	} = (*fiber.Stack)(nil)
)

// prim
var (
	_ func(s *value.Space, in api.Script) (*prim.Env, api.Errno) = prim.New
	_ func(n int) string                                         = prim.Name
	_ func(name string) int                                      = prim.Number
	_ func(n int) (int, int)                                     = prim.Counts
	_ interface {
		Call(n int, args []api.Word) (api.Word, string, bool)
		Trace() []api.Event
		Words() []api.Word
		SetWords(l []api.Word) bool
	} = (*prim.Env)(nil)
)

// vm
var (
	_ func(c api.Code, in api.Script, o api.Options) (*vm.Machine, api.Errno) = vm.New
	_ interface {
		Step() bool
		Run(fuel int)
		Outcome() api.Outcome
		Trace() []api.Event
		Steps() int
		Live() int
	} = (*vm.Machine)(nil)
)

// prelude
var (
	_ func() []string          = prelude.Parts
	_ func(name string) string = prelude.Part
	_ func() string            = prelude.Text
	_ func() []string          = prelude.Names
)

// world
var (
	_ func(text []byte) ([]api.Core, api.Problem)                               = world.Terms
	_ func(text []byte) (api.Code, api.Problem)                                 = world.Code
	_ func(text []byte, in api.Script, o api.Options, fuel int) api.Result      = world.Run
	_ func(texts [][]byte, in api.Script, o api.Options, fuel int) []api.Result = world.Repl
)
