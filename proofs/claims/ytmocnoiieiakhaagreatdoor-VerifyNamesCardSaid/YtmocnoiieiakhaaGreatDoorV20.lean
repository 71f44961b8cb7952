/- Walks: the document's Of once more, with what is known of the room. -/
import Derived.Test.YtmocnoiieiakhaaGreatDoorV07
import Derived.Test.YtmocnoiieiakhaaGreatDoorProg
import Derived.Test.YtmocnoiieiakhaaGreatDoorV02
import Derived.Handy
import Derived.Deep.RegionHeld3
import Derived.Laws.AppendOwnNone
import Derived.Deep.OwnRows
import Derived.Laws.CopyOwn
import Derived.Test.YtmocnoiieiakhaaGreatDoorV01
import Derived.Deep.RegionWith
import Derived.Maps.AppendAt
import Derived.Sort.AtCallIn
import Derived.Lib.BitFns
import Derived.Shelf.Strings.Builder1
import Derived.Shelf.Strings.Builder2
import Derived.Shelf.Small.Utf8
import Derived.Shelf.Small.Strs
import Derived.Shelf.Small.Wraps
import Derived.Shelf.Strings.BuilderF
import Derived.Shelf.Strings.BuilderK
import Derived.Shelf.Utf8.RuneCount
import Derived.Shelf.Strconv.Atoi
import Derived.Shelf.Strconv.Itoa0
import Derived.Shelf.Strconv.Itoa1
import Derived.Shelf.LaysM
import Derived.Shelf.Strconv.Itoa2
import Derived.Shelf.Strconv.Itoa3
import Derived.Shelf.Strconv.Clone
import Derived.Shelf.Strconv.Lower
import Derived.Shelf.Strconv.ParseUint10
import Derived.Shelf.Strconv.ParseUint10Empty
import Derived.Shelf.Strconv.ParseUint10Any
import Derived.Shelf.Strconv.RangeError
import Derived.Shelf.LaysC
import Derived.Shelf.Strconv.ToErrorRange
import Derived.Shelf.Strconv.ParseUintEmpty
import Derived.Shelf.Strconv.ParseUint10b64
import Derived.Shelf.Strconv.ParseUint10b32
import Derived.Shelf.Strconv.ParseUint10b16
import Derived.Shelf.Strconv.ParseUint10b8
import Derived.Shelf.Strconv.ParseUint10At
import Derived.Ground.MpProg
import Derived.Shelf.Pu.ParseUintPublic10
import Derived.Shelf.Pu.ErrVarParseUint
import Derived.Shelf.Strings.Search1
import Derived.Shelf.Strings.Search2
import Derived.Shelf.Strings.Search3
import Derived.Shelf.Strings.Cut
import Derived.Shelf.Strings.Shaped
import Derived.Shelf.Strings.Prefix
import Derived.Shelf.Strings.Fields
import Derived.Shelf.Strings.SplitShaped
import Derived.Shelf.Unicode.Latin
import Derived.Shelf.Strings.Runes
import Derived.Shelf.Strings.RuneCount
import Derived.Shelf.Strings.IndexAny
import Derived.Shelf.Strings.AsciiSet
import Derived.Shelf.Strings.IndexAnyAll
import Derived.Shelf.Bits.Mul64
import Derived.Shelf.Strings.Repeat
import Derived.Shelf.Unicode.Is16White
import Derived.Shelf.Unicode.IsSpaceAny
import Derived.Shelf.Unicode.Is16Any
import Derived.Shelf.Unicode.Is32Any
import Derived.Shelf.Unicode.ExclAny
import Derived.Test.YtmocnoiieiakhaaGreatDoorV06
import Derived.Test.YtmocnoiieiakhaaGreatDoorV05
import Derived.Test.YtmocnoiieiakhaaGreatDoorV11
import Derived.Lib.OthersKept
import Derived.Lib.ParseIntBCases
import Derived.Lib.AtoiErrMem
import Derived.LaidSub
import Derived.Lib.LaidTab
import Derived.Lib.SmallJoins
import Derived.Deep.QuietTactic
import Derived.BigQuiet
import Derived.Laws.IdiomStrings
import Derived.LoopTactic
import Derived.Deep.LoopGhost
import Derived.Deep.DeepCutAuto
import Derived.BigRegion
import Derived.WalkMore
import Derived.ScopeJumps
namespace Go.Proofs.YtmocnoiieiakhaaGreatDoor
open Go.RowKit
namespace LM
set_option linter.unusedVariables false

section
variable {w w' : World} {L : List (Nat × Bool × Option Addr × Nat × Nat)} {M : List (Value × Int)}
end
end LM
end Go.Proofs.YtmocnoiieiakhaaGreatDoor

namespace Go.Proofs.YtmocnoiieiakhaaGreatDoor
open Go.RowKit
namespace LM
set_option linter.unusedVariables false

end LM
end Go.Proofs.YtmocnoiieiakhaaGreatDoor

namespace Go.Proofs.YtmocnoiieiakhaaGreatDoor
open Go.RowKit
namespace LM
set_option linter.unusedVariables false

section
variable {w W : World} {L : List (Nat × Bool × Option Addr × Nat × Nat)} {v1 va : Value} {p a : Int}
end
theorem bel_trans {B : Nat} {w W w2 : World} (h : Below B w W) (hb : Below W.heap.size W w2) (hB : B ≤ w.heap.size := by exact Nat.le_refl _) : Below B w w2 := h.trans (hb.mono (Nat.le_trans hB h.size))
section
variable {w w2 : World} {K : Nat} {s s2 b1 b2 : Bool} {A A2 A1 B2 : Option Addr} {n c n2 c2 n1 c1 m2 d2 : Nat} {p a : Int}
end


end LM
end Go.Proofs.YtmocnoiieiakhaaGreatDoor

namespace Go.Proofs.YtmocnoiieiakhaaGreatDoor
open Go Go.RowKit
namespace LM
set_option linter.unusedVariables false

section
variable {w w' w2 : World} {g B : Nat} {fl : Bool} {f : Nat} {s : Bool} {A : Option Addr} {n c : Nat}
end

theorem run_store_flt (P : Program) (w : World) (a : Addr) (m : Mode) (k : FloatKind) (b : Nat) : (store a (.float k b) m).run P w = stored P w a (.float k b) m := run_store P w a _ m rfl
attribute [local go_sem] run_store_flt

end LM
end Go.Proofs.YtmocnoiieiakhaaGreatDoor

namespace Go.Proofs.YtmocnoiieiakhaaGreatDoor
open Go Go.RowKit
namespace LM
set_option linter.unusedVariables false
attribute [local go_sem] run_store_flt

end LM
end Go.Proofs.YtmocnoiieiakhaaGreatDoor

namespace Go.Proofs.YtmocnoiieiakhaaGreatDoor
open Go Go.RowKit
namespace LM
set_option linter.unusedVariables false
attribute [local go_sem] run_store_flt

/-- blocks that are known -/
def Obs (w : World) (L : List (Nat × Obj)) : Prop := ∀ q ∈ L, w.heap[q.1]? = some q.2
section
variable {w w' : World} {L : List (Nat × Obj)} {g : Nat} {o : Obj}
theorem Obs.nil : Obs w [] := fun q hq => by cases hq
theorem Obs.cons (h : w.heap[g]? = some o) (hs : Obs w L) : Obs w ((g, o) :: L) := fun q hq => by
  rcases List.mem_cons.1 hq with rfl | hq
  · exact h
  · exact hs q hq
theorem Obs.hd (h : Obs w ((g, o) :: L)) : w.heap[g]? = some o := h _ (List.mem_cons_self ..)
theorem Obs.tl {p : Nat × Obj} (h : Obs w (p :: L)) : Obs w L := fun q hq => h q (List.mem_cons_of_mem _ hq)
theorem Obs.alloc (h : Obs w L) (x : Obj) : Obs (w.alloc x) L := fun q hq => by
  have h1 := h q hq
  refine (Below.heap_alloc w x _ ?_).trans h1
  rcases Nat.lt_or_ge q.1 w.heap.size with h2 | h2
  · exact h2
  · rw [Array.getElem?_eq_none h2] at h1; cases h1
theorem Obs.new (h : Obs w L) (x : Obj) : Obs (w.alloc x) ((w.heap.size, x) :: L) := Obs.cons (by unfold World.alloc; simp) (h.alloc x)
end
theorem ob_cell {w : World} {g : Nat} {cs : Array Value} {T : TypeId} (h : w.heap[g]? = some (.cells cs T (0, 0))) (i : Nat) : w.cell? ⟨g, i, none⟩ = cs[i]? := by
  simp [World.cell?, h]
theorem ob_free {w : World} {g : Nat} {cs : Array Value} {T : TypeId} (h : w.heap[g]? = some (.cells cs T (0, 0))) (i : Nat) (hi : i < cs.size) : w.frozen? ⟨g, i, none⟩ = false := by
  simp [World.frozen?, h]

end LM
end Go.Proofs.YtmocnoiieiakhaaGreatDoor

namespace Go.Proofs.YtmocnoiieiakhaaGreatDoor
open Go Go.RowKit
namespace LM
set_option linter.unusedVariables false

/-- what a datum holds but its Items -/
structure Hd where
  k : Int
  n : Int
  fl : Bool
  f : Nat
  s : Bool
  A : Option Addr
  xs : List Nat
  c : Nat
  t : ByteArray
  B : Option Addr
  cap : Nat
/-- data one behind the other -/
inductive Fr where
  | nil : Fr
  | cons (h : Hd) (kids rest : Fr) : Fr
def Fr.len : Fr → Nat
  | .nil => 0
  | .cons _ _ r => r.len + 1
/-- a datum as a value -/
abbrev datA (h : Hd) (n : Nat) : Value := .agg #[.int .i64 h.k, .int .i64 h.n, .bool h.fl, .float .f64 h.f, .bool h.s, .slice h.A h.xs.length h.c, .string h.t, .slice h.B n h.cap]
/-- and as a block -/
abbrev datO (h : Hd) (n : Nat) : Obj := .cells #[.int .i64 h.k, .int .i64 h.n, .bool h.fl, .float .f64 h.f, .bool h.s, .slice h.A h.xs.length h.c, .string h.t, .slice h.B n h.cap] 67 (0, 0)
/-- a datum's eight cells -/
structure C8 (w : World) (b off : Nat) (h : Hd) (n : Nat) : Prop where
  c0 : w.cell? ⟨b, off, none⟩ = some (.int .i64 h.k)
  c1 : w.cell? ⟨b, off + 1, none⟩ = some (.int .i64 h.n)
  c2 : w.cell? ⟨b, off + 2, none⟩ = some (.bool h.fl)
  c3 : w.cell? ⟨b, off + 3, none⟩ = some (.float .f64 h.f)
  c4 : w.cell? ⟨b, off + 4, none⟩ = some (.bool h.s)
  c5 : w.cell? ⟨b, off + 5, none⟩ = some (.slice h.A h.xs.length h.c)
  c6 : w.cell? ⟨b, off + 6, none⟩ = some (.string h.t)
  c7 : w.cell? ⟨b, off + 7, none⟩ = some (.slice h.B n h.cap)
/-- data that lie from a place on -/
def FAt (w : World) : Nat → Nat → Fr → Prop
  | _, _, .nil => True
  | b, off, .cons h kids rest => b < w.heap.size ∧ C8 w b off h kids.len ∧ Rd w h.A h.xs ∧ (∃ b' off', (0 < kids.len → h.B = some ⟨b', off', none⟩) ∧ FAt w b' off' kids) ∧ FAt w b (off + 8) rest
/-- a datum that is handed on: its Items lie in memory -/
structure DatV (w : World) (h : Hd) (kids : Fr) : Prop where
  xs : Rd w h.A h.xs
  items : ∃ b off, (0 < kids.len → h.B = some ⟨b, off, none⟩) ∧ FAt w b off kids
/-- what is so of each datum that there can be -/
structure Hd.Ok (h : Hd) (m : Nat) : Prop where
  k : -9223372036854775808 ≤ h.k ∧ h.k ≤ 9223372036854775807
  n : -9223372036854775808 ≤ h.n ∧ h.n ≤ 9223372036854775807
  f : h.f < 18446744073709551616
  lm : Lm h.xs
  c : h.xs.length ≤ h.c ∧ h.c ≤ 9223372036854775807
  nA : h.A = none → h.xs.length = 0 ∧ h.c = 0
  l : h.xs.length ≤ 1000
  t : h.t.size ≤ 281474976710656
  cap : m ≤ h.cap ∧ h.cap ≤ 9223372036854775807
  nB : h.B = none → m = 0 ∧ h.cap = 0
  sA : ∀ ad, h.A = some ad → 0 < h.c → ad.spot = none
  sB : ∀ ad, h.B = some ad → 0 < h.cap → ad.spot = none
theorem C8.keep {w w' : World} {b off : Nat} {h : Hd} {n B : Nat} (hc : C8 w b off h n) (hb : Below B w w') (hlt : b < B) : C8 w' b off h n :=
  ⟨(hb.cell (p := ⟨b, _, none⟩) hlt).trans hc.c0, (hb.cell (p := ⟨b, _, none⟩) hlt).trans hc.c1, (hb.cell (p := ⟨b, _, none⟩) hlt).trans hc.c2, (hb.cell (p := ⟨b, _, none⟩) hlt).trans hc.c3,
    (hb.cell (p := ⟨b, _, none⟩) hlt).trans hc.c4, (hb.cell (p := ⟨b, _, none⟩) hlt).trans hc.c5, (hb.cell (p := ⟨b, _, none⟩) hlt).trans hc.c6, (hb.cell (p := ⟨b, _, none⟩) hlt).trans hc.c7⟩
theorem FAt.below {w w' : World} (hb : Below w.heap.size w w') : ∀ (fr : Fr) (b off : Nat), FAt w b off fr → FAt w' b off fr := by
  intro fr
  induction fr with
  | nil => intro b off _; exact trivial
  | cons h kids rest ihk ihr =>
    intro b off hf
    obtain ⟨h1, h2, h3, ⟨b', off', h4, h5⟩, h6⟩ := hf
    exact ⟨Nat.lt_of_lt_of_le h1 hb.size, h2.keep hb h1, h3.below hb, ⟨b', off', h4, ihk _ _ h5⟩, ihr _ _ h6⟩
theorem DatV.below {w w' : World} {h : Hd} {kids : Fr} (hd : DatV w h kids) (hb : Below w.heap.size w w') : DatV w' h kids := by
  obtain ⟨h1, b, off, h2, h3⟩ := hd
  exact ⟨h1.below hb, b, off, h2, FAt.below hb _ _ _ h3⟩
theorem C8.of_block {w : World} {b : Nat} {h : Hd} {n : Nat} (hb : w.heap[b]? = some (datO h n)) : C8 w b 0 h n :=
  ⟨by rw [ob_cell hb]; rfl, by rw [ob_cell hb]; rfl, by rw [ob_cell hb]; rfl, by rw [ob_cell hb]; rfl, by rw [ob_cell hb]; rfl, by rw [ob_cell hb]; rfl, by rw [ob_cell hb]; rfl, by rw [ob_cell hb]; rfl⟩
/-- one of data one behind the other -/
theorem FAt.hd {w : World} {b off : Nat} {h : Hd} {kids rest : Fr} (hf : FAt w b off (.cons h kids rest)) : b < w.heap.size ∧ C8 w b off h kids.len ∧ DatV w h kids ∧ FAt w b (off + 8) rest := by
  obtain ⟨h1, h2, h3, h4, h5⟩ := hf
  exact ⟨h1, h2, ⟨h3, h4⟩, h5⟩
/-- the data behind the first i -/
def Fr.drop : Nat → Fr → Fr
  | 0, fr => fr
  | _ + 1, .nil => .nil
  | i + 1, .cons _ _ r => r.drop i
theorem Fr.len_drop : ∀ (i : Nat) (fr : Fr), (fr.drop i).len = fr.len - i := by
  intro i
  induction i with
  | zero => intro fr; rfl
  | succ i ih =>
    intro fr
    cases fr with
    | nil => show 0 = 0 - (i + 1); omega
    | cons h k r =>
      have := ih r
      show (r.drop i).len = (r.len + 1) - (i + 1)
      omega
theorem FAt.drop {w : World} {b : Nat} : ∀ (i : Nat) (fr : Fr) (off : Nat), FAt w b off fr → FAt w b (off + i * 8) (fr.drop i) := by
  intro i
  induction i with
  | zero => intro fr off h; rw [Nat.zero_mul]; exact h
  | succ i ih =>
    intro fr off h
    cases fr with
    | nil => exact trivial
    | cons hh k r =>
      have := ih r (off + 8) h.hd.2.2.2
      rw [show off + (i + 1) * 8 = off + 8 + i * 8 from by omega]
      exact this
theorem Fr.cons_of_lt {fr : Fr} {i : Nat} (hi : i < fr.len) : ∃ h k r, fr.drop i = .cons h k r ∧ fr.drop (i + 1) = r := by
  induction i generalizing fr with
  | zero =>
    cases fr with
    | nil => exact absurd hi (by show ¬ 0 < 0; omega)
    | cons h k r => exact ⟨h, k, r, rfl, rfl⟩
  | succ i ih =>
    cases fr with
    | nil => exact absurd hi (by show ¬ i + 1 < 0; omega)
    | cons h k r =>
      have h2 : i < r.len := by have h3 : i + 1 < r.len + 1 := hi; omega
      exact ih h2

end LM
end Go.Proofs.YtmocnoiieiakhaaGreatDoor

namespace Go.Proofs.YtmocnoiieiakhaaGreatDoor
open Go Go.RowKit
namespace LM
set_option linter.unusedVariables false

/-- an instruction -/
structure Ins where
  op : Int
  a : Int
  b : Int
/-- a procedure -/
structure Prh where
  nm : ByteArray
  pa : Int
  rs : Bool
  sl : Int
  de : Int
  fr : Int
  B : Option Addr
  cap : Nat
  code : List Ins
abbrev insA (x : Ins) : Value := .agg #[.int .i64 x.op, .int .i64 x.a, .int .i64 x.b]
abbrev prA (p : Prh) : Value := .agg #[.string p.nm, .int .i64 p.pa, .bool p.rs, .int .i64 p.sl, .int .i64 p.de, .int .i64 p.fr, .slice p.B p.code.length p.cap]
abbrev insO (x : Ins) : Obj := .cells #[.int .i64 x.op, .int .i64 x.a, .int .i64 x.b] 33 (0, 0)
abbrev prO (p : Prh) : Obj := .cells #[.string p.nm, .int .i64 p.pa, .bool p.rs, .int .i64 p.sl, .int .i64 p.de, .int .i64 p.fr, .slice p.B p.code.length p.cap] 39 (0, 0)
structure I3 (w : World) (b off : Nat) (x : Ins) : Prop where
  c0 : w.cell? ⟨b, off, none⟩ = some (.int .i64 x.op)
  c1 : w.cell? ⟨b, off + 1, none⟩ = some (.int .i64 x.a)
  c2 : w.cell? ⟨b, off + 2, none⟩ = some (.int .i64 x.b)
structure P7 (w : World) (b off : Nat) (p : Prh) : Prop where
  c0 : w.cell? ⟨b, off, none⟩ = some (.string p.nm)
  c1 : w.cell? ⟨b, off + 1, none⟩ = some (.int .i64 p.pa)
  c2 : w.cell? ⟨b, off + 2, none⟩ = some (.bool p.rs)
  c3 : w.cell? ⟨b, off + 3, none⟩ = some (.int .i64 p.sl)
  c4 : w.cell? ⟨b, off + 4, none⟩ = some (.int .i64 p.de)
  c5 : w.cell? ⟨b, off + 5, none⟩ = some (.int .i64 p.fr)
  c6 : w.cell? ⟨b, off + 6, none⟩ = some (.slice p.B p.code.length p.cap)
def InsAt (w : World) (b off : Nat) (l : List Ins) : Prop := ∀ j x, l[j]? = some x → b < w.heap.size ∧ I3 w b (off + j * 3) x
def StrAt (w : World) (b off : Nat) (l : List ByteArray) : Prop := ∀ j x, l[j]? = some x → b < w.heap.size ∧ w.cell? ⟨b, off + j, none⟩ = some (.string x)
def NumAt (w : World) (b off : Nat) (l : List Int) : Prop := ∀ j x, l[j]? = some x → b < w.heap.size ∧ w.cell? ⟨b, off + j, none⟩ = some (.int .i64 x)
def PrcAt (w : World) (b off : Nat) (l : List Prh) : Prop := ∀ j p, l[j]? = some p → b < w.heap.size ∧ P7 w b (off + j * 7) p
/-- a procedure's instructions lie there -/
def PrV (w : World) (p : Prh) : Prop := ∃ b off, (0 < p.code.length → p.B = some ⟨b, off, none⟩) ∧ InsAt w b off p.code
/-- a procedure's numbers are ints, its row has room -/
structure Prh.Ok (p : Prh) : Prop where
  cap : p.code.length ≤ p.cap ∧ p.cap ≤ 9223372036854775807
  l : p.code.length ≤ 140737488355328

theorem I3.keep {w w' : World} {b off : Nat} {x : Ins} {B : Nat} (h : I3 w b off x) (hb : Below B w w') (hlt : b < B) : I3 w' b off x :=
  ⟨(hb.cell (p := ⟨b, _, none⟩) hlt).trans h.c0, (hb.cell (p := ⟨b, _, none⟩) hlt).trans h.c1, (hb.cell (p := ⟨b, _, none⟩) hlt).trans h.c2⟩
theorem P7.keep {w w' : World} {b off : Nat} {x : Prh} {B : Nat} (h : P7 w b off x) (hb : Below B w w') (hlt : b < B) : P7 w' b off x :=
  ⟨(hb.cell (p := ⟨b, _, none⟩) hlt).trans h.c0, (hb.cell (p := ⟨b, _, none⟩) hlt).trans h.c1, (hb.cell (p := ⟨b, _, none⟩) hlt).trans h.c2, (hb.cell (p := ⟨b, _, none⟩) hlt).trans h.c3, (hb.cell (p := ⟨b, _, none⟩) hlt).trans h.c4,
    (hb.cell (p := ⟨b, _, none⟩) hlt).trans h.c5, (hb.cell (p := ⟨b, _, none⟩) hlt).trans h.c6⟩
theorem InsAt.below {w w' : World} (hb : Below w.heap.size w w') {b off : Nat} {l : List Ins} (h : InsAt w b off l) : InsAt w' b off l := fun j x hx =>
  ⟨Nat.lt_of_lt_of_le (h j x hx).1 hb.size, (h j x hx).2.keep hb (h j x hx).1⟩
theorem StrAt.below {w w' : World} (hb : Below w.heap.size w w') {b off : Nat} {l : List ByteArray} (h : StrAt w b off l) : StrAt w' b off l := fun j x hx =>
  ⟨Nat.lt_of_lt_of_le (h j x hx).1 hb.size, (hb.cell (p := ⟨b, off + j, none⟩) (h j x hx).1).trans (h j x hx).2⟩
theorem NumAt.below {w w' : World} (hb : Below w.heap.size w w') {b off : Nat} {l : List Int} (h : NumAt w b off l) : NumAt w' b off l := fun j x hx =>
  ⟨Nat.lt_of_lt_of_le (h j x hx).1 hb.size, (hb.cell (p := ⟨b, off + j, none⟩) (h j x hx).1).trans (h j x hx).2⟩
theorem PrcAt.below {w w' : World} (hb : Below w.heap.size w w') {b off : Nat} {l : List Prh} (h : PrcAt w b off l) : PrcAt w' b off l := fun j x hx =>
  ⟨Nat.lt_of_lt_of_le (h j x hx).1 hb.size, (h j x hx).2.keep hb (h j x hx).1⟩
theorem PrV.below {w w' : World} (hb : Below w.heap.size w w') {p : Prh} (h : PrV w p) : PrV w' p := by
  obtain ⟨b, off, h1, h2⟩ := h
  exact ⟨b, off, h1, h2.below hb⟩
theorem I3.of_block {w : World} {b : Nat} {x : Ins} (hb : w.heap[b]? = some (insO x)) : I3 w b 0 x :=
  ⟨by rw [ob_cell hb]; rfl, by rw [ob_cell hb]; rfl, by rw [ob_cell hb]; rfl⟩
theorem P7.of_block {w : World} {b : Nat} {p : Prh} (hb : w.heap[b]? = some (prO p)) : P7 w b 0 p :=
  ⟨by rw [ob_cell hb]; rfl, by rw [ob_cell hb]; rfl, by rw [ob_cell hb]; rfl, by rw [ob_cell hb]; rfl, by rw [ob_cell hb]; rfl, by rw [ob_cell hb]; rfl, by rw [ob_cell hb]; rfl⟩
/-- the j-th and what is behind it -/
theorem drop_at {α : Type} {l : List α} {j : Nat} (h : j < l.length) : ∃ x, l[j]? = some x ∧ l.drop j = x :: l.drop (j + 1) :=
  ⟨l[j], List.getElem?_eq_getElem h, List.drop_eq_getElem_cons h⟩

/-- a program -/
structure Cod where
  PB : Option Addr
  pc : Nat
  ps : List Prh
  CB : Option Addr
  cc : Nat
  kids : Fr
  GB : Option Addr
  gc : Nat
  gs : List ByteArray
abbrev codA (c : Cod) : Value := .agg #[.slice c.PB c.ps.length c.pc, .slice c.CB c.kids.len c.cc, .slice c.GB c.gs.length c.gc]
abbrev codO (c : Cod) : Obj := .cells #[.slice c.PB c.ps.length c.pc, .slice c.CB c.kids.len c.cc, .slice c.GB c.gs.length c.gc] 30 (0, 0)
structure K3 (w : World) (b off : Nat) (c : Cod) : Prop where
  c0 : w.cell? ⟨b, off, none⟩ = some (.slice c.PB c.ps.length c.pc)
  c1 : w.cell? ⟨b, off + 1, none⟩ = some (.slice c.CB c.kids.len c.cc)
  c2 : w.cell? ⟨b, off + 2, none⟩ = some (.slice c.GB c.gs.length c.gc)
/-- what a program leads to lies there -/
structure CodV (w : World) (c : Cod) : Prop where
  ps : ∃ b off, (0 < c.ps.length → c.PB = some ⟨b, off, none⟩) ∧ PrcAt w b off c.ps
  pv : ∀ p ∈ c.ps, PrV w p
  kids : ∃ b off, (0 < c.kids.len → c.CB = some ⟨b, off, none⟩) ∧ FAt w b off c.kids
  gs : ∃ b off, (0 < c.gs.length → c.GB = some ⟨b, off, none⟩) ∧ StrAt w b off c.gs
structure Cod.Ok (c : Cod) : Prop where
  ps : c.ps.length ≤ c.pc ∧ c.pc ≤ 9223372036854775807
  kids : c.kids.len ≤ c.cc ∧ c.cc ≤ 9223372036854775807
  gs : c.gs.length ≤ c.gc ∧ c.gc ≤ 9223372036854775807
  pr : ∀ p ∈ c.ps, p.Ok
theorem K3.keep {w w' : World} {b off : Nat} {c : Cod} {B : Nat} (h : K3 w b off c) (hb : Below B w w') (hlt : b < B) : K3 w' b off c :=
  ⟨(hb.cell (p := ⟨b, _, none⟩) hlt).trans h.c0, (hb.cell (p := ⟨b, _, none⟩) hlt).trans h.c1, (hb.cell (p := ⟨b, _, none⟩) hlt).trans h.c2⟩
theorem K3.of_block {w : World} {b : Nat} {c : Cod} (hb : w.heap[b]? = some (codO c)) : K3 w b 0 c :=
  ⟨by rw [ob_cell hb]; rfl, by rw [ob_cell hb]; rfl, by rw [ob_cell hb]; rfl⟩
theorem CodV.below {w w' : World} (hb : Below w.heap.size w w') {c : Cod} (h : CodV w c) : CodV w' c := by
  obtain ⟨⟨b1, o1, h1, h2⟩, h3, ⟨b2, o2, h4, h5⟩, ⟨b3, o3, h6, h7⟩⟩ := h
  exact ⟨⟨b1, o1, h1, h2.below hb⟩, fun p hp => (h3 p hp).below hb, ⟨b2, o2, h4, FAt.below hb _ _ _ h5⟩, ⟨b3, o3, h6, h7.below hb⟩⟩
theorem cod_block (w : World) (c : Cod) : ∃ W0, w.alloc (codO c) = W0 ∧ Below w.heap.size w W0 ∧ W0.heap[w.heap.size]? = some (codO c) ∧ w.heap.size < W0.heap.size ∧ W0.heap.size = w.heap.size + 1 :=
  ⟨_, rfl, (Below.refl _ w).alloc (Nat.le_refl _) _, by unfold World.alloc; simp, by simp, by simp⟩
/-- how many instructions there are -/
def insN (l : List Prh) : Nat := (l.map fun p => p.code.length).sum
theorem insN_cons (p : Prh) (l : List Prh) : insN (p :: l) = p.code.length + insN l := rfl
theorem insN_le {l : List Prh} (h : ∀ p ∈ l, p.Ok) : insN l ≤ l.length * 140737488355328 := by
  induction l with
  | nil => exact Nat.zero_le _
  | cons p l ih =>
    have h1 := (h p (List.mem_cons_self ..)).l
    have h2 := ih fun q hq => h q (List.mem_cons_of_mem _ hq)
    rw [insN_cons, List.length_cons, Nat.succ_mul]
    omega
/-- no more parts than there may be -/
def fewB (c : Cod) : Bool := decide (c.ps.length ≤ 4000) && (decide (c.kids.len ≤ 4000) && (decide (c.gs.length ≤ 4000) && decide (insN c.ps ≤ 40000)))

/-- a number that there can be -/
def numB (n : Int) : Bool := decide (0 ≤ n) && decide (n ≤ 16777215)
def insB (x : Ins) : Bool := [x.op, x.a, x.b].all numB
def prB (p : Prh) : Bool := decide (p.nm.size ≤ 100) && ([p.pa, p.sl, p.de, p.fr].all numB && p.code.all insB)

end LM
end Go.Proofs.YtmocnoiieiakhaaGreatDoor

namespace Go.Proofs.YtmocnoiieiakhaaGreatDoor
open Go Go.RowKit
namespace LM
set_option linter.unusedVariables false

/-- a procedure's numbers are those of a program that can be -/
def PrN (p : Prh) : Prop := (0 ≤ p.pa ∧ p.pa ≤ 16777215) ∧ (0 ≤ p.sl ∧ p.sl ≤ 16777215) ∧ (0 ≤ p.de ∧ p.de ≤ 16777215) ∧ (0 ≤ p.fr ∧ p.fr ≤ 16777215)
/-- how many slots have a value at the beginning -/
def nmV (p : Prh) : Int := if p.rs then p.pa + 1 else p.pa
/-- a looking, in memory -/
structure L6 (w : World) (L : Nat) (c : Cod) (pb po : Nat) (n k : Int) : Prop where
  c0 : w.cell? ⟨L, 0, none⟩ = some (.slice c.PB c.ps.length c.pc)
  c1 : w.cell? ⟨L, 1, none⟩ = some (.slice c.CB c.kids.len c.cc)
  c2 : w.cell? ⟨L, 2, none⟩ = some (.slice c.GB c.gs.length c.gc)
  c3 : w.cell? ⟨L, 3, none⟩ = some (.pointer (some ⟨pb, po, none⟩))
  c4 : w.cell? ⟨L, 4, none⟩ = some (.int .i64 n)
  c5 : w.cell? ⟨L, 5, none⟩ = some (.int .i64 k)
abbrev lookO (c : Cod) (pb po : Nat) (n k : Int) : Obj := .cells #[.slice c.PB c.ps.length c.pc, .slice c.CB c.kids.len c.cc, .slice c.GB c.gs.length c.gc, .pointer (some ⟨pb, po, none⟩), .int .i64 n, .int .i64 k] 50 (0, 0)
theorem L6.of_block {w : World} {L : Nat} {c : Cod} {pb po : Nat} {n k : Int} (h : w.heap[L]? = some (lookO c pb po n k)) : L6 w L c pb po n k :=
  ⟨ob_cell h 0, ob_cell h 1, ob_cell h 2, ob_cell h 3, ob_cell h 4, ob_cell h 5⟩
theorem L6.keep {w w' : World} {L : Nat} {c : Cod} {pb po : Nat} {n k : Int} {B : Nat} (h : L6 w L c pb po n k) (hb : Below B w w') (hlt : L < B) : L6 w' L c pb po n k :=
  ⟨(hb.cell (p := ⟨L, _, none⟩) hlt).trans h.c0, (hb.cell (p := ⟨L, _, none⟩) hlt).trans h.c1, (hb.cell (p := ⟨L, _, none⟩) hlt).trans h.c2, (hb.cell (p := ⟨L, _, none⟩) hlt).trans h.c3, (hb.cell (p := ⟨L, _, none⟩) hlt).trans h.c4, (hb.cell (p := ⟨L, _, none⟩) hlt).trans h.c5⟩

set_option maxRecDepth 100000 in
theorem vnames_any (b off : Nat) (p : Prh) (hn : PrN p) (w : World) (h : P7 w b off p) :
    Calls Tryz.prog 45 #[.pointer (some ⟨b, off, none⟩)] w fun e w' => e = .returned (.int .i64 (nmV p)) ∧ w' = w := by
  obtain ⟨nm, pa, rs, sl, de, fr, B, cap, code⟩ := p
  obtain ⟨x0, x1, x2, x3, x4, x5, x6⟩ := h
  have w1 : IntKind.i64.wrap (pa + 1) = pa + 1 := by have := hn.1; dsimp only at this; rw [IntKind.wrap_i64]; omega
  dsimp only at x0 x1 x2 x3 x4 x5 x6
  cases rs
  · have E : Hid (nmV ⟨nm, pa, false, sl, de, fr, B, cap, code⟩ = pa) := Lib.hid rfl
    clear hn
    go_enter Tryz.func45, Tryz.ntmps45
    go_wp2_with (fail)
    go_ret
    exact ⟨by rw [E.out]; rfl, rfl⟩
  · have E : Hid (nmV ⟨nm, pa, true, sl, de, fr, B, cap, code⟩ = pa + 1) := Lib.hid rfl
    clear hn
    go_enter Tryz.func45, Tryz.ntmps45
    go_wp2_with (fail)
    go_ret
    exact ⟨by rw [E.out]; rfl, rfl⟩

/-- what is wrong with what a procedure says of itself -/
def numE (p : Prh) : Int := if p.sl < nmV p then 113 else if 180 < p.sl + p.de then 113 else if 180 < p.fr then 113 else if p.code.length = 0 then 114 else 0

set_option maxRecDepth 100000 in
set_option maxHeartbeats 8000000 in
theorem vnumbers_any (L : Nat) (c : Cod) (pb po : Nat) (n k : Int) (p : Prh) (hn : PrN p) (w : World) (hl : L6 w L c pb po n k) (hp : P7 w pb po p) :
    Calls Tryz.prog 27 #[.pointer (some ⟨L, 0, none⟩)] w fun e w' => e = .returned (.int .i64 (numE p)) ∧ Below w.heap.size w w' := by
  obtain ⟨y0, y1, y2, y3, y4, y5⟩ := hl
  have NM : Hid (∀ W : World, W.heap = w.heap → Calls Tryz.prog 45 #[.pointer (some ⟨pb, po, none⟩)] W fun e w' => e = .returned (.int .i64 (nmV p)) ∧ w' = W) := Lib.hid fun W hW =>
    vnames_any pb po p hn W ⟨by rw [World.cell?, hW]; exact hp.c0, by rw [World.cell?, hW]; exact hp.c1, by rw [World.cell?, hW]; exact hp.c2, by rw [World.cell?, hW]; exact hp.c3, by rw [World.cell?, hW]; exact hp.c4, by rw [World.cell?, hW]; exact hp.c5, by rw [World.cell?, hW]; exact hp.c6⟩
  obtain ⟨x0, x1, x2, x3, x4, x5, x6⟩ := hp
  obtain ⟨⟨a1, a2⟩, ⟨a3, a4⟩, ⟨a5, a6⟩, a7, a8⟩ := hn
  have w1 : IntKind.i64.wrap (p.sl + p.de) = p.sl + p.de := by rw [IntKind.wrap_i64]; omega
  obtain ⟨m, hm⟩ : ∃ m, nmV p = m := ⟨_, rfl⟩
  obtain ⟨E, hE⟩ : ∃ E, numE p = E := ⟨_, rfl⟩
  rw [hm] at NM
  rw [hE]
  unfold numE at hE
  rw [hm] at hE
  have HE := Lib.hid hE
  clear hE hm a1 a2 a3 a4 a5 a6 a7 a8
  by_cases c1 : p.sl < m
  · have g1 : decide (p.sl < m) = true := decide_eq_true c1
    have R : Hid (E = 113) := Lib.hid (by rw [← HE.out, if_pos c1])
    clear HE c1
    go_enter Tryz.func27, Tryz.ntmps27
    go_wp2_with (fail)
    go_region_with (go_at_call 45; refine (NM.out _ (by rfl)).mono ?_; rintro e w' ⟨rfl, rfl⟩)
    all_goals
      go_wp2_with (fail)
      go_ret
      exact ⟨by rw [R.out]; rfl, by repeat (first | exact Below.refl _ _ | apply Below.drew)⟩
  have g1 : decide (p.sl < m) = false := decide_eq_false c1
  by_cases c2 : 180 < p.sl + p.de
  · have g2 : decide (180 < p.sl + p.de) = true := decide_eq_true c2
    have R : Hid (E = 113) := Lib.hid (by rw [← HE.out, if_neg c1, if_pos c2])
    clear HE c1 c2
    go_enter Tryz.func27, Tryz.ntmps27
    go_wp2_with (fail)
    go_region_with (go_at_call 45; refine (NM.out _ (by rfl)).mono ?_; rintro e w' ⟨rfl, rfl⟩)
    all_goals
      go_wp2_with (fail)
      go_region
      all_goals
        go_wp2_with (fail)
        go_ret
        exact ⟨by rw [R.out]; rfl, by repeat (first | exact Below.refl _ _ | apply Below.drew)⟩
  have g2 : decide (180 < p.sl + p.de) = false := decide_eq_false c2
  by_cases c3 : 180 < p.fr
  · have g3 : decide (180 < p.fr) = true := decide_eq_true c3
    have R : Hid (E = 113) := Lib.hid (by rw [← HE.out, if_neg c1, if_neg c2, if_pos c3])
    clear HE c1 c2 c3
    go_enter Tryz.func27, Tryz.ntmps27
    go_wp2_with (fail)
    go_region_with (go_at_call 45; refine (NM.out _ (by rfl)).mono ?_; rintro e w' ⟨rfl, rfl⟩)
    all_goals
      go_wp2_with (fail)
      go_region
      all_goals
        go_wp2_with (fail)
        go_ret
        exact ⟨by rw [R.out]; rfl, by repeat (first | exact Below.refl _ _ | apply Below.drew)⟩
  have g3 : decide (180 < p.fr) = false := decide_eq_false c3
  by_cases c4 : p.code.length = 0
  · have g4 : ((p.code.length : Int) == 0) = true := by rw [c4]; rfl
    have R : Hid (E = 114) := Lib.hid (by rw [← HE.out, if_neg c1, if_neg c2, if_neg c3, if_pos c4])
    clear HE c1 c2 c3 c4
    go_enter Tryz.func27, Tryz.ntmps27
    go_wp2_with (fail)
    go_region_with (go_at_call 45; refine (NM.out _ (by rfl)).mono ?_; rintro e w' ⟨rfl, rfl⟩)
    all_goals
      go_wp2_with (fail)
      go_region
      all_goals
        go_wp2_with (fail)
        go_ret
        exact ⟨by rw [R.out]; rfl, by repeat (first | exact Below.refl _ _ | apply Below.drew)⟩
  have g4 : ((p.code.length : Int) == 0) = false := by rw [beq_eq_false_iff_ne]; omega
  have R : Hid (E = 0) := Lib.hid (by rw [← HE.out, if_neg c1, if_neg c2, if_neg c3, if_neg c4])
  clear HE c1 c2 c3 c4
  go_enter Tryz.func27, Tryz.ntmps27
  go_wp2_with (fail)
  go_region_with (go_at_call 45; refine (NM.out _ (by rfl)).mono ?_; rintro e w' ⟨rfl, rfl⟩)
  all_goals
    go_wp2_with (fail)
    go_region
    all_goals
      go_wp2_with (fail)
      go_ret
      exact ⟨by rw [R.out]; rfl, by repeat (first | exact Below.refl _ _ | apply Below.drew)⟩

/-- does the next instruction follow -/
def goesB (x : Ins) : Bool := x.op != 11 && (x.op != 14 && x.op != 15)
def jumpB (x : Ins) : Bool := x.op == 11 || x.op == 12
theorem ins_world (x : Ins) (w : World) : ∃ W0, w.alloc (insO x) = W0 ∧ Below w.heap.size w W0 ∧ I3 W0 w.heap.size 0 x :=
  ⟨_, rfl, (Below.refl _ w).alloc (Nat.le_refl _) _, I3.of_block (by unfold World.alloc; simp)⟩
set_option maxRecDepth 100000 in
theorem vgoes_any (x : Ins) (w : World) : Calls Tryz.prog 50 #[insA x] w fun e w' => e = .returned (.bool (goesB x)) ∧ Below w.heap.size w w' := by
  obtain ⟨W0, hW0, hb0, y0, y1, y2⟩ := ins_world x w
  have HW0 := Lib.hid hW0
  have HB0 := Lib.hid hb0
  obtain ⟨b1, h1⟩ : ∃ b, (x.op != 11) = b := ⟨_, rfl⟩
  obtain ⟨b2, h2⟩ : ∃ b, (x.op != 14) = b := ⟨_, rfl⟩
  obtain ⟨b3, h3⟩ : ∃ b, (x.op != 15) = b := ⟨_, rfl⟩
  have HQ : Hid (goesB x = (b1 && (b2 && b3))) := Lib.hid (by unfold goesB; rw [h1, h2, h3])
  have f1 : (x.op == 11) = !b1 := by rw [← h1]; simp [bne]
  have f2 : (x.op == 14) = !b2 := by rw [← h2]; simp [bne]
  have f3 : (x.op == 15) = !b3 := by rw [← h3]; simp [bne]
  clear hW0 hb0
  cases b1 <;> cases b2 <;> cases b3
  all_goals
    go_enter Tryz.func50, Tryz.ntmps50
    go_wp2_with (fail)
    rw [HW0.out]
    go_wp2_with (fail)
    go_ret
    exact ⟨by rw [HQ.out]; rfl, HB0.out⟩
set_option maxRecDepth 100000 in
theorem vjumps_any (x : Ins) (w : World) : Calls Tryz.prog 51 #[insA x] w fun e w' => e = .returned (.bool (jumpB x)) ∧ Below w.heap.size w w' := by
  obtain ⟨W0, hW0, hb0, y0, y1, y2⟩ := ins_world x w
  have HW0 := Lib.hid hW0
  have HB0 := Lib.hid hb0
  obtain ⟨b1, h1⟩ : ∃ b, (x.op == 11) = b := ⟨_, rfl⟩
  obtain ⟨b2, h2⟩ : ∃ b, (x.op == 12) = b := ⟨_, rfl⟩
  have HQ : Hid (jumpB x = (b1 || b2)) := Lib.hid (by unfold jumpB; rw [h1, h2])
  clear hW0 hb0
  cases b1 <;> cases b2
  all_goals
    go_enter Tryz.func51, Tryz.ntmps51
    go_wp2_with (fail)
    rw [HW0.out]
    go_wp2_with (fail)
    go_ret
    exact ⟨by rw [HQ.out]; rfl, HB0.out⟩

/-- is there a procedure with which a program can begin -/
def beginB (ps : List Prh) : Bool := match ps with | [] => false | p :: _ => p.pa == 0 && (!p.rs && p.fr == 0)
set_option maxRecDepth 100000 in
theorem vbegin_any (ps : List Prh) (B : Option Addr) (cap b off : Nat) (w : World) (hB : 0 < ps.length → B = some ⟨b, off, none⟩) (hF : PrcAt w b off ps) (hc : ps.length ≤ cap ∧ cap ≤ 9223372036854775807) :
    Calls Tryz.prog 13 #[.slice B ps.length cap] w fun e w' => e = .returned (.bool (beginB ps)) ∧ w' = w := by
  cases ps with
  | nil =>
    clear hF hB hc
    dsimp only [List.length_nil]
    go_enter Tryz.func13, Tryz.ntmps13
    go_wp2_with (fail)
    go_ret
    exact ⟨rfl, rfl⟩
  | cons p l =>
    obtain rfl := hB (by simp)
    obtain ⟨hbl, x0, x1, x2, x3, x4, x5, x6⟩ := hF 0 p rfl
    obtain ⟨n, hn⟩ : ∃ n, (p :: l).length = n := ⟨_, rfl⟩
    have hn1 : 0 < n := by rw [← hn]; simp
    rw [hn] at hc ⊢
    have E : Hid (beginB (p :: l) = (p.pa == 0 && (!p.rs && p.fr == 0))) := Lib.hid rfl
    have d1 : decide ((0 : Int) < (n : Int)) = true := decide_eq_true (by omega)
    have d1' : decide (0 < n) = true := decide_eq_true hn1
    have d2 : (0 : Int) < (n : Int) := by omega
    have d4 : (n : Int) ≤ (cap : Int) := by omega
    have d5 : (cap : Int) ≤ 9223372036854775807 := by omega
    obtain ⟨b1, h1⟩ : ∃ q, (p.pa == 0) = q := ⟨_, rfl⟩
    obtain ⟨b2, h2⟩ : ∃ q, p.rs = q := ⟨_, rfl⟩
    obtain ⟨b3, h3⟩ : ∃ q, (p.fr == 0) = q := ⟨_, rfl⟩
    rw [h2] at x2 E
    rw [h1, h3] at E
    simp only [Nat.zero_mul, Nat.add_zero] at x0 x1 x2 x3 x4 x5 x6
    clear hF hn hB hc h2
    cases b1 <;> cases b2 <;> cases b3
    all_goals
      go_enter Tryz.func13, Tryz.ntmps13
      go_wp2_with (fail)
      go_ret
      exact ⟨by rw [E.out]; rfl, rfl⟩

end LM
end Go.Proofs.YtmocnoiieiakhaaGreatDoor

namespace Go.Proofs.YtmocnoiieiakhaaGreatDoor
open Go Go.RowKit
namespace LM
set_option linter.unusedVariables false

set_option maxRecDepth 100000 in
theorem vlen_any (A : Option Addr) (n cap : Nat) (w : World) : Calls Tryz.prog 31 #[.slice A n cap] w fun e w' => e = .returned (.int .i64 (n : Int)) ∧ w = w' := by
  go_enter Tryz.func31, Tryz.ntmps31
  go_wp2_with (fail)
  go_ret
  exact ⟨rfl, rfl⟩

set_option maxRecDepth 100000 in
theorem vless_any (g n cap i j : Nat) (x y : Int) (w : World) (hi : i < n) (hj : j < n) (hc : n ≤ cap ∧ cap ≤ 9223372036854775807) (h1 : w.cell? ⟨g, i, none⟩ = some (.int .i64 x)) (h2 : w.cell? ⟨g, j, none⟩ = some (.int .i64 y)) :
    Calls Tryz.prog 267 #[.slice (some ⟨g, 0, none⟩) n cap, .int .i64 (i : Int), .int .i64 (j : Int)] w fun e w' => e = .returned (.bool (decide (x < y))) ∧ w' = w.drew := by
  have a1 : (0 : Int) ≤ (i : Int) := by omega
  have a2 : (i : Int) < (n : Int) := by omega
  have a3 : (0 : Int) ≤ (j : Int) := by omega
  have a4 : (j : Int) < (n : Int) := by omega
  have a5 : (n : Int) ≤ (cap : Int) := by omega
  have a6 : (cap : Int) ≤ 9223372036854775807 := by omega
  go_enter Tryz.func267, Tryz.ntmps267
  go_wp2_with (fail)
  go_region
  all_goals
    go_wp2_with (fail)
    go_ret
    exact ⟨rfl, rfl⟩

theorem cell_setCell_some {w : World} {p q : Addr} {x v : Value} (h : w.cell? q = some v) : ∃ v', (w.setCell p x).cell? q = some v' := by
  by_cases e : p = q
  · subst e; exact ⟨x, World.cell?_setCell_same w p x h⟩
  · exact ⟨v, (World.cell?_setCell_other w p q x e).trans h⟩
set_option maxRecDepth 100000 in
theorem vswap_any (g n cap i j : Nat) (x y : Int) (w : World) (hi : i < n) (hj : j < n) (hc : n ≤ cap ∧ cap ≤ 9223372036854775807) (h1 : w.cell? ⟨g, i, none⟩ = some (.int .i64 x)) (h2 : w.cell? ⟨g, j, none⟩ = some (.int .i64 y)) (f1 : w.frozen? ⟨g, i, none⟩ = false) (f2 : w.frozen? ⟨g, j, none⟩ = false) :
    Calls Tryz.prog 269 #[.slice (some ⟨g, 0, none⟩) n cap, .int .i64 (i : Int), .int .i64 (j : Int)] w fun e w' => (∃ v, e = .returned v) ∧ w' = ((w.setCell ⟨g, i, none⟩ (.int .i64 y)).setCell ⟨g, j, none⟩ (.int .i64 x)).drew := by
  have a1 : (0 : Int) ≤ (i : Int) := by omega
  have a2 : (i : Int) < (n : Int) := by omega
  have a3 : (0 : Int) ≤ (j : Int) := by omega
  have a4 : (j : Int) < (n : Int) := by omega
  have a5 : (n : Int) ≤ (cap : Int) := by omega
  have a6 : (cap : Int) ≤ 9223372036854775807 := by omega
  obtain ⟨z, hz⟩ := cell_setCell_some (p := ⟨g, i, none⟩) (x := .int .i64 y) h2
  obtain ⟨z', hz'⟩ := cell_setCell_some (p := ⟨g, j, none⟩) (x := .int .i64 x) h1
  have f3 : (w.setCell ⟨g, i, none⟩ (.int .i64 y)).frozen? ⟨g, j, none⟩ = false := by rw [World.frozen?_setCell]; exact f2
  have f4 : (w.setCell ⟨g, j, none⟩ (.int .i64 x)).frozen? ⟨g, i, none⟩ = false := by rw [World.frozen?_setCell]; exact f1
  go_enter Tryz.func269, Tryz.ntmps269
  go_wp2_with (fail)
  go_region
  all_goals
    go_wp2_with (fail)
    go_end0
    exact ⟨⟨_, rfl⟩, rfl⟩

theorem find_by {nm : String} {a : Option (FuncId × Bool)} {b : List FieldStep} (h : (Array.find? (fun x => x.name == nm) Tryz.t84.methods).map (fun m => (m.func, m.path.toList)) = some (a, b)) :
    ∃ m : Method, Array.find? (fun x => x.name == nm) Tryz.t84.methods = some m ∧ m.func = a ∧ m.path.toList = b := by
  cases hf : Array.find? (fun x => x.name == nm) Tryz.t84.methods with
  | none => rw [hf] at h; cases h
  | some m =>
    rw [hf] at h
    simp only [Option.map_some, Option.some.injEq, Prod.mk.injEq] at h
    exact ⟨m, rfl, h.1, h.2⟩
set_option maxRecDepth 100000 in
theorem meth_len (f W0 : Nat) (lv : Value) (w : World) (h : w.cell? ⟨W0, 5, none⟩ = some lv) : (method (f + 1) 84 (.pointer (some ⟨W0, 5, none⟩)) "Len").run Tryz.prog w = .ok (31, lv) w := by
  obtain ⟨m, hm, h1, h2⟩ := find_by (nm := "Len") (a := some (31, false)) (b := [⟨78, 0, true⟩]) (by kernel_rfl)
  rw [method]
  have ha : (Addr.add ⟨W0, 5, none⟩ 0) = ⟨W0, 5, none⟩ := rfl
  simp [hm, h1, h2, follow, receiverAt, fieldPlace, Place.get, asAddr, go_sem, ha, loadVar, h]
set_option maxRecDepth 100000 in
theorem meth_less (f W0 : Nat) (lv : Value) (w : World) (h : w.cell? ⟨W0, 5, none⟩ = some lv) : (method (f + 1) 84 (.pointer (some ⟨W0, 5, none⟩)) "Less").run Tryz.prog w = .ok (267, lv) w := by
  obtain ⟨m, hm, h1, h2⟩ := find_by (nm := "Less") (a := some (267, false)) (b := [⟨78, 0, true⟩]) (by kernel_rfl)
  rw [method]
  have ha : (Addr.add ⟨W0, 5, none⟩ 0) = ⟨W0, 5, none⟩ := rfl
  simp [hm, h1, h2, follow, receiverAt, fieldPlace, Place.get, asAddr, go_sem, ha, loadVar, h]
set_option maxRecDepth 100000 in
theorem meth_swap (f W0 : Nat) (lv : Value) (w : World) (h : w.cell? ⟨W0, 5, none⟩ = some lv) : (method (f + 1) 84 (.pointer (some ⟨W0, 5, none⟩)) "Swap").run Tryz.prog w = .ok (269, lv) w := by
  obtain ⟨m, hm, h1, h2⟩ := find_by (nm := "Swap") (a := some (269, false)) (b := [⟨78, 0, true⟩]) (by kernel_rfl)
  rw [method]
  have ha : (Addr.add ⟨W0, 5, none⟩ 0) = ⟨W0, 5, none⟩ := rfl
  simp [hm, h1, h2, follow, receiverAt, fieldPlace, Place.get, asAddr, go_sem, ha, loadVar, h]

end LM
end Go.Proofs.YtmocnoiieiakhaaGreatDoor

namespace Go.Proofs.YtmocnoiieiakhaaGreatDoor
open Go Go.RowKit
namespace LM
set_option linter.unusedVariables false

/-- what an instruction's A is to be below -/
def boundV (c : Cod) (p : Prh) (k : Int) (op : Int) : Int :=
  if op = 0 ∨ op = 18 then c.kids.len else if op = 1 ∨ op = 2 then p.sl else if op = 3 then p.fr else if op = 4 ∨ op = 5 ∨ op = 6 then c.gs.length else if op = 10 then c.ps.length
  else if op = 11 ∨ op = 12 then p.code.length else if op = 20 then k else if op = 17 then 21 else 16777216

set_option maxRecDepth 100000 in
set_option maxHeartbeats 16000000 in
theorem vbound_any (L : Nat) (c : Cod) (pb po : Nat) (n k : Int) (p : Prh) (op : Int) (w : World) (hl : L6 w L c pb po n k) (hp : P7 w pb po p) :
    Calls Tryz.prog 46 #[.pointer (some ⟨L, 0, none⟩), .int .i64 op] w fun e w' => e = .returned (.int .i64 (boundV c p k op)) ∧ w' = w := by
  obtain ⟨y0, y1, y2, y3, y4, y5⟩ := hl
  obtain ⟨x0, x1, x2, x3, x4, x5, x6⟩ := hp
  obtain ⟨R, hR⟩ : ∃ R, boundV c p k op = R := ⟨_, rfl⟩
  rw [hR]
  unfold boundV at hR
  have HR := Lib.hid hR
  clear hR
  by_cases q0 : op = 0
  · subst q0
    have E : Hid (R = (c.kids.len : Int)) := Lib.hid (by rw [← HR.out]; first | rfl | simp)
    clear HR
    go_enter Tryz.func46, Tryz.ntmps46
    go_wp2_with (fail)
    go_ret
    exact ⟨by rw [E.out]; rfl, rfl⟩
  have e0 : (op == 0) = false := beq_eq_false_iff_ne.2 q0
  by_cases q18 : op = 18
  · subst q18
    have E : Hid (R = (c.kids.len : Int)) := Lib.hid (by rw [← HR.out]; first | rfl | simp)
    clear HR
    go_enter Tryz.func46, Tryz.ntmps46
    go_wp2_with (fail)
    go_ret
    exact ⟨by rw [E.out]; rfl, rfl⟩
  have e18 : (op == 18) = false := beq_eq_false_iff_ne.2 q18
  by_cases q1 : op = 1
  · subst q1
    have E : Hid (R = p.sl) := Lib.hid (by rw [← HR.out]; first | rfl | simp)
    clear HR
    go_enter Tryz.func46, Tryz.ntmps46
    go_wp2_with (fail)
    go_ret
    exact ⟨by rw [E.out]; rfl, rfl⟩
  have e1 : (op == 1) = false := beq_eq_false_iff_ne.2 q1
  by_cases q2 : op = 2
  · subst q2
    have E : Hid (R = p.sl) := Lib.hid (by rw [← HR.out]; first | rfl | simp)
    clear HR
    go_enter Tryz.func46, Tryz.ntmps46
    go_wp2_with (fail)
    go_ret
    exact ⟨by rw [E.out]; rfl, rfl⟩
  have e2 : (op == 2) = false := beq_eq_false_iff_ne.2 q2
  by_cases q3 : op = 3
  · subst q3
    have E : Hid (R = p.fr) := Lib.hid (by rw [← HR.out]; first | rfl | simp)
    clear HR
    go_enter Tryz.func46, Tryz.ntmps46
    go_wp2_with (fail)
    go_ret
    exact ⟨by rw [E.out]; rfl, rfl⟩
  have e3 : (op == 3) = false := beq_eq_false_iff_ne.2 q3
  by_cases q4 : op = 4
  · subst q4
    have E : Hid (R = (c.gs.length : Int)) := Lib.hid (by rw [← HR.out]; first | rfl | simp)
    clear HR
    go_enter Tryz.func46, Tryz.ntmps46
    go_wp2_with (fail)
    go_ret
    exact ⟨by rw [E.out]; rfl, rfl⟩
  have e4 : (op == 4) = false := beq_eq_false_iff_ne.2 q4
  by_cases q5 : op = 5
  · subst q5
    have E : Hid (R = (c.gs.length : Int)) := Lib.hid (by rw [← HR.out]; first | rfl | simp)
    clear HR
    go_enter Tryz.func46, Tryz.ntmps46
    go_wp2_with (fail)
    go_ret
    exact ⟨by rw [E.out]; rfl, rfl⟩
  have e5 : (op == 5) = false := beq_eq_false_iff_ne.2 q5
  by_cases q6 : op = 6
  · subst q6
    have E : Hid (R = (c.gs.length : Int)) := Lib.hid (by rw [← HR.out]; first | rfl | simp)
    clear HR
    go_enter Tryz.func46, Tryz.ntmps46
    go_wp2_with (fail)
    go_ret
    exact ⟨by rw [E.out]; rfl, rfl⟩
  have e6 : (op == 6) = false := beq_eq_false_iff_ne.2 q6
  by_cases q10 : op = 10
  · subst q10
    have E : Hid (R = (c.ps.length : Int)) := Lib.hid (by rw [← HR.out]; first | rfl | simp)
    clear HR
    go_enter Tryz.func46, Tryz.ntmps46
    go_wp2_with (fail)
    go_ret
    exact ⟨by rw [E.out]; rfl, rfl⟩
  have e10 : (op == 10) = false := beq_eq_false_iff_ne.2 q10
  by_cases q11 : op = 11
  · subst q11
    have E : Hid (R = (p.code.length : Int)) := Lib.hid (by rw [← HR.out]; first | rfl | simp)
    clear HR
    go_enter Tryz.func46, Tryz.ntmps46
    go_wp2_with (fail)
    go_ret
    exact ⟨by rw [E.out]; rfl, rfl⟩
  have e11 : (op == 11) = false := beq_eq_false_iff_ne.2 q11
  by_cases q12 : op = 12
  · subst q12
    have E : Hid (R = (p.code.length : Int)) := Lib.hid (by rw [← HR.out]; first | rfl | simp)
    clear HR
    go_enter Tryz.func46, Tryz.ntmps46
    go_wp2_with (fail)
    go_ret
    exact ⟨by rw [E.out]; rfl, rfl⟩
  have e12 : (op == 12) = false := beq_eq_false_iff_ne.2 q12
  by_cases q20 : op = 20
  · subst q20
    have E : Hid (R = k) := Lib.hid (by rw [← HR.out]; first | rfl | simp)
    clear HR
    go_enter Tryz.func46, Tryz.ntmps46
    go_wp2_with (fail)
    go_ret
    exact ⟨by rw [E.out]; rfl, rfl⟩
  have e20 : (op == 20) = false := beq_eq_false_iff_ne.2 q20
  by_cases q17 : op = 17
  · subst q17
    have E : Hid (R = (21 : Int)) := Lib.hid (by rw [← HR.out]; first | rfl | simp)
    clear HR
    go_enter Tryz.func46, Tryz.ntmps46
    go_wp2_with (fail)
    go_ret
    exact ⟨by rw [E.out]; rfl, rfl⟩
  have e17 : (op == 17) = false := beq_eq_false_iff_ne.2 q17
  have E : Hid (R = 16777216) := Lib.hid (by rw [← HR.out]; simp [q0, q18, q1, q2, q3, q4, q5, q6, q10, q11, q12, q20, q17])
  clear HR q0 q18 q1 q2 q3 q4 q5 q6 q10 q11 q12 q20 q17
  go_enter Tryz.func46, Tryz.ntmps46
  go_wp2_with (fail)
  go_ret
  exact ⟨by rw [E.out]; rfl, rfl⟩

end LM
end Go.Proofs.YtmocnoiieiakhaaGreatDoor

namespace Go.Proofs.YtmocnoiieiakhaaGreatDoor
open Go Go.RowKit
namespace LM
set_option linter.unusedVariables false

/-- the kind of the j-th constant -/
def kindAt : Fr → Nat → Int
  | .nil, _ => 0
  | .cons h _ _, 0 => h.k
  | .cons _ _ r, j + 1 => kindAt r j
/-- what is wrong with an instruction by itself -/
def insE (c : Cod) (p : Prh) (k : Int) (x : Ins) : Int :=
  if 21 < x.op then 111 else if boundV c p k x.op ≤ x.a then 112 else if x.op = 18 ∧ kindAt c.kids x.a.toNat ≠ 4 then 112 else if x.op = 17 ∧ 3 < x.b then 112 else 0
theorem kind_cell {w : World} {b : Nat} : ∀ (fr : Fr) (off j : Nat), FAt w b off fr → j < fr.len → w.cell? ⟨b, off + j * 8, none⟩ = some (.int .i64 (kindAt fr j)) := by
  intro fr
  induction fr with
  | nil => intro off j _ h; exact absurd h (by show ¬ j < 0; omega)
  | cons h k r _ ihr =>
    intro off j hf hj
    cases j with
    | zero => have := hf.hd.2.1.c0; simpa [kindAt] using this
    | succ j =>
      have h3 : j < r.len := by have h4 : j + 1 < r.len + 1 := hj; omega
      have := ihr (off + 8) j hf.hd.2.2.2 h3
      rw [show off + (j + 1) * 8 = off + 8 + j * 8 by omega]
      exact this

set_option maxRecDepth 100000 in
set_option maxHeartbeats 16000000 in
theorem vinstr_any (L : Nat) (c : Cod) (pb po : Nat) (n k : Int) (p : Prh) (x : Ins) (hx : 0 ≤ x.a) (w : World) (hLw : L < w.heap.size) (hpw : pb < w.heap.size) (hl : L6 w L c pb po n k) (hp : P7 w pb po p)
    (cb coff : Nat) (hCB : 0 < c.kids.len → c.CB = some ⟨cb, coff, none⟩) (hCF : FAt w cb coff c.kids) (hcc : c.kids.len ≤ c.cc ∧ c.cc ≤ 9223372036854775807) :
    Calls Tryz.prog 28 #[.pointer (some ⟨L, 0, none⟩), insA x] w fun e w' => e = .returned (.int .i64 (insE c p k x)) ∧ Below w.heap.size w w' := by
  obtain ⟨op, a, b⟩ := x
  dsimp only at hx
  obtain ⟨W0, hW0, hb0, z0, z1, z2⟩ := ins_world ⟨op, a, b⟩ w
  dsimp only at hW0 z0 z1 z2 ⊢
  simp only [Nat.zero_add] at z0 z1 z2
  obtain ⟨y0, y1, y2, y3, y4, y5⟩ := hl.keep hb0 hLw
  have BO : Hid (∀ W : World, W.heap = W0.heap → Calls Tryz.prog 46 #[.pointer (some ⟨L, 0, none⟩), .int .i64 op] W fun e w' => e = .returned (.int .i64 (boundV c p k op)) ∧ w' = W) := Lib.hid fun W hW => by
    have k1 := hl.keep hb0 hLw
    have k2 := hp.keep hb0 hpw
    have e : ∀ a, W.cell? a = W0.cell? a := fun a => by unfold World.cell?; rw [hW]
    exact vbound_any L c pb po n k p op W ⟨by rw [e]; exact k1.c0, by rw [e]; exact k1.c1, by rw [e]; exact k1.c2, by rw [e]; exact k1.c3, by rw [e]; exact k1.c4, by rw [e]; exact k1.c5⟩
      ⟨by rw [e]; exact k2.c0, by rw [e]; exact k2.c1, by rw [e]; exact k2.c2, by rw [e]; exact k2.c3, by rw [e]; exact k2.c4, by rw [e]; exact k2.c5, by rw [e]; exact k2.c6⟩
  obtain ⟨bd, hbd⟩ : ∃ q, boundV c p k op = q := ⟨_, rfl⟩
  obtain ⟨E, hE⟩ : ∃ E, insE c p k ⟨op, a, b⟩ = E := ⟨_, rfl⟩
  rw [hbd] at BO
  rw [hE]
  unfold insE at hE
  dsimp only at hE
  rw [hbd] at hE
  have HE := Lib.hid hE
  have HW0 := Lib.hid hW0
  have HB0 := Lib.hid hb0
  have HBD := Lib.hid hbd
  have CF := Lib.hid (FAt.below hb0 _ _ _ hCF)
  have CB := Lib.hid hCB
  clear hE hbd hW0 hb0 hCF hCB hl hp
  by_cases c1 : 21 < op
  · have g1 : decide (21 < op) = true := decide_eq_true c1
    have R : Hid (E = 111) := Lib.hid (by rw [← HE.out, if_pos c1])
    clear HE HBD CF CB hx c1
    go_enter Tryz.func28, Tryz.ntmps28
    go_wp2_with (fail)
    rw [HW0.out]
    go_wp2_with (fail)
    go_ret
    exact ⟨by rw [R.out]; rfl, HB0.out⟩
  have g1 : decide (21 < op) = false := decide_eq_false c1
  obtain ⟨q2, hq2⟩ : ∃ q, decide (bd ≤ a) = q := ⟨_, rfl⟩
  have YS : Hid (∀ W : World, W.heap = W0.heap → W.cell? ⟨w.heap.size, 0, none⟩ = some (.int .i64 op) ∧ W.cell? ⟨w.heap.size, 1, none⟩ = some (.int .i64 a) ∧ W.cell? ⟨w.heap.size, 2, none⟩ = some (.int .i64 b) ∧ W.cell? ⟨L, 1, none⟩ = W0.cell? ⟨L, 1, none⟩ ∧ ∀ x, W.cell? x = W0.cell? x) := Lib.hid fun W hW => by
    have e : ∀ a, W.cell? a = W0.cell? a := fun a => by unfold World.cell?; rw [hW]
    exact ⟨by rw [e]; exact z0, by rw [e]; exact z1, by rw [e]; exact z2, e _, e⟩
  have Y1 := Lib.hid y1
  have C1 := Lib.hid c1
  have HX := Lib.hid hx
  clear c1 hx y0 y1 y2 y3 y4 y5
  go_enter Tryz.func28, Tryz.ntmps28
  go_upto_region 3 with (fail)
  rw [HW0.out]
  go_cut [9] (fun v wx => v = .bool q2 ∧ Hid (wx.heap = W0.heap) ∧ Hid (Below w.heap.size w wx))
  case first =>
    go_region_with (go_at_call 46; refine (BO.out _ (by rfl)).mono ?_; rintro e w' ⟨rfl, rfl⟩)
    all_goals
      go_wp2_with (fail)
      go_meet
      exact ⟨rfl, Lib.hid rfl, Lib.hid (by repeat (first | exact HB0.out | apply Below.drew))⟩
  case rest =>
    obtain ⟨rfl, HW, HB⟩ := hcut
    obtain ⟨z0, z1, z2, k1, kk⟩ := YS.out wc HW.out
    rw [Y1.out] at k1
    have KK := Lib.hid kk
    clear kk
    cases q2
    · have c2 : ¬ bd ≤ a := of_decide_eq_false hq2
      have C2 := Lib.hid c2
      clear c2 hq2
      by_cases c3 : op = 18
      · subst c3
        obtain ⟨m, hm⟩ : ∃ m : Nat, a = (m : Int) := ⟨a.toNat, (Int.toNat_of_nonneg HX.out).symm⟩
        subst hm
        have hbk : bd = (c.kids.len : Int) := by rw [← HBD.out]; rfl
        have hml : m < c.kids.len := by have := C2.out; omega
        have cbe := CB.out (Nat.lt_of_le_of_lt (Nat.zero_le _) hml)
        rw [cbe] at k1
        have kc := kind_cell c.kids coff m CF.out hml
        rw [← KK.out] at kc
        obtain ⟨kd, hkd⟩ : ∃ q, kindAt c.kids m = q := ⟨_, rfl⟩
        rw [hkd] at kc
        have E2 : Hid (E = if kd ≠ 4 then 112 else 0) := Lib.hid (by
          rw [← HE.out, if_neg C1.out, if_neg C2.out, show ((m : Int)).toNat = m from Int.toNat_natCast m, hkd]
          by_cases h4 : kd = 4
          · rw [if_neg (by rintro ⟨-, h⟩; exact h h4), if_neg (by omega), if_neg (by rintro h; exact h h4)]
          · rw [if_pos ⟨rfl, h4⟩, if_pos h4])
        have d2 : (0 : Int) ≤ (m : Int) := Int.natCast_nonneg m
        have d3 : (m : Int) < (c.kids.len : Int) := Int.ofNat_lt.2 hml
        have d4 : (c.kids.len : Int) ≤ (c.cc : Int) := Int.ofNat_le.2 hcc.1
        have d5 : (c.cc : Int) ≤ 9223372036854775807 := by have := hcc.2; omega
        clear hkd hbk cbe hml CF CB hcc
        obtain ⟨q, hq⟩ : ∃ q, (kd == 4) = q := ⟨_, rfl⟩
        cases q
        · have R : Hid (E = 112) := Lib.hid (by rw [E2.out, if_pos (by rw [beq_eq_false_iff_ne] at hq; exact hq)])
          clear E2
          go_wp2_with (fail)
          go_quiet (fail)
          go_wp2_with (fail)
          go_ret
          exact ⟨by rw [R.out]; rfl, by first | exact HB.out | exact below_drewN HB.out _⟩
        · have R : Hid (E = 0) := Lib.hid (by rw [E2.out, if_neg (by rw [beq_iff_eq] at hq; exact fun h => h hq)])
          clear E2
          go_wp2_with (fail)
          go_quiet (fail)
          go_wp2_with (fail)
          go_ret
          exact ⟨by rw [R.out]; rfl, by first | exact HB.out | exact below_drewN HB.out _⟩
      · have g3 : (op == 18) = false := beq_eq_false_iff_ne.2 c3
        have C3 := Lib.hid c3
        clear c3 hcc CF CB k1
        obtain ⟨q4, hq4⟩ : ∃ q, (op == 17) = q := ⟨_, rfl⟩
        obtain ⟨q5, hq5⟩ : ∃ q, decide (3 < b) = q := ⟨_, rfl⟩
        have R : Hid (E = if q4 = true ∧ q5 = true then 112 else 0) := Lib.hid (by
          rw [← HE.out, if_neg C1.out, if_neg C2.out, if_neg (fun h => C3.out h.1), ← hq4, ← hq5]
          simp only [beq_iff_eq, decide_eq_true_eq])
        cases q4 <;> cases q5
        all_goals
          go_wp2_with (fail)
          go_quiet (fail)
          go_wp2_with (fail)
          go_ret
          exact ⟨by rw [R.out]; rfl, by first | exact HB.out | exact below_drewN HB.out _⟩
    · have R : Hid (E = 112) := Lib.hid (by rw [← HE.out, if_neg C1.out, if_pos (of_decide_eq_true hq2)])
      clear hq2 hcc
      go_wp2_with (fail)
      go_ret
      exact ⟨by rw [R.out]; rfl, HB.out⟩

end LM
end Go.Proofs.YtmocnoiieiakhaaGreatDoor

namespace Go.Proofs.YtmocnoiieiakhaaGreatDoor
open Go Go.RowKit
namespace LM
set_option linter.unusedVariables false
attribute [local go_sem] run_store_flt

/-- the count, which gives up at most -/
def cnt : Int → Int → Fr → Int
  | _, n, .nil => n
  | most, n, .cons _ kids rest => if most ≤ n then n else cnt most (n + cnt (most - n) 1 kids) rest
/-- the address of the j-th of data -/
theorem counted_item {w : World} {b off j : Nat} {fr : Fr} {hh : Hd} {k r : Fr} (hf : FAt w b off fr) (hj : fr.drop j = .cons hh k r) : b < w.heap.size ∧ C8 w b (off + j * 8) hh k.len ∧ DatV w hh k := by
  have h := FAt.drop j fr off hf
  rw [hj] at h
  exact ⟨h.hd.1, h.hd.2.1, h.hd.2.2.1⟩
end LM
end Go.Proofs.YtmocnoiieiakhaaGreatDoor

namespace Go.Proofs.YtmocnoiieiakhaaGreatDoor
open Go.RowKit
namespace LM
set_option linter.unusedVariables false

end LM
end Go.Proofs.YtmocnoiieiakhaaGreatDoor

namespace Go.Proofs.YtmocnoiieiakhaaGreatDoor
open Go Go.RowKit
namespace LM
set_option linter.unusedVariables false
attribute [local go_sem] run_store_flt

end LM
end Go.Proofs.YtmocnoiieiakhaaGreatDoor

namespace Go.Proofs.YtmocnoiieiakhaaGreatDoor
open Go.RowKit
namespace LM
set_option linter.unusedVariables false

end LM
end Go.Proofs.YtmocnoiieiakhaaGreatDoor

namespace Go.Proofs.YtmocnoiieiakhaaGreatDoor
open Go.RowKit
namespace LM
set_option linter.unusedVariables false

end LM
end Go.Proofs.YtmocnoiieiakhaaGreatDoor

namespace Go.Proofs.YtmocnoiieiakhaaGreatDoor
open Go.RowKit
namespace LM
set_option linter.unusedVariables false

end LM
end Go.Proofs.YtmocnoiieiakhaaGreatDoor

namespace Go.Proofs.YtmocnoiieiakhaaGreatDoor
open Go.RowKit
namespace LM
set_option linter.unusedVariables false

end LM
end Go.Proofs.YtmocnoiieiakhaaGreatDoor

namespace Go.Proofs.YtmocnoiieiakhaaGreatDoor
open Go.RowKit
namespace LM
set_option linter.unusedVariables false

end LM
end Go.Proofs.YtmocnoiieiakhaaGreatDoor
