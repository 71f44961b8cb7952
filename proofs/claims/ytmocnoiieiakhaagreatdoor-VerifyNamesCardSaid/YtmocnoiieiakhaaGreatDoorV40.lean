/- Walks of package code: can an instruction be, a procedure, a constant. -/
import Derived.Test.YtmocnoiieiakhaaGreatDoorV33
import Derived.Test.YtmocnoiieiakhaaGreatDoorProg
import Derived.Test.YtmocnoiieiakhaaGreatDoorV02
import Derived.Shelf.Strings.Builder1
import Derived.Shelf.Strings.Builder2
import Derived.Shelf.Small.Utf8
import Derived.Shelf.Small.Strs
import Derived.Shelf.Small.Wraps
import Derived.Shelf.Strings.BuilderF
import Derived.Shelf.Strings.BuilderK
import Derived.Shelf.Utf8.RuneCount
import Derived.Shelf.Strconv.Atoi
import Derived.Shelf.Strconv.Itoa0
import Derived.Shelf.Strconv.Itoa1
import Derived.Shelf.LaysM
import Derived.Shelf.Strconv.Itoa2
import Derived.Shelf.Strconv.Itoa3
import Derived.Shelf.Strconv.Clone
import Derived.Shelf.Strconv.Lower
import Derived.Shelf.Strconv.ParseUint10
import Derived.Shelf.Strconv.ParseUint10Empty
import Derived.Shelf.Strconv.ParseUint10Any
import Derived.Shelf.Strconv.RangeError
import Derived.Shelf.LaysC
import Derived.Shelf.Strconv.ToErrorRange
import Derived.Shelf.Strconv.ParseUintEmpty
import Derived.Shelf.Strconv.ParseUint10b64
import Derived.Shelf.Strconv.ParseUint10b32
import Derived.Shelf.Strconv.ParseUint10b16
import Derived.Shelf.Strconv.ParseUint10b8
import Derived.Shelf.Strconv.ParseUint10At
import Derived.Ground.MpProg
import Derived.Shelf.Pu.ParseUintPublic10
import Derived.Shelf.Pu.ErrVarParseUint
import Derived.Shelf.Strings.Search1
import Derived.Shelf.Strings.Search2
import Derived.Shelf.Strings.Search3
import Derived.Shelf.Strings.Cut
import Derived.Shelf.Strings.Shaped
import Derived.Shelf.Strings.Prefix
import Derived.Shelf.Strings.Fields
import Derived.Shelf.Strings.SplitShaped
import Derived.Shelf.Unicode.Latin
import Derived.Shelf.Strings.Runes
import Derived.Shelf.Strings.RuneCount
import Derived.Shelf.Strings.IndexAny
import Derived.Shelf.Strings.AsciiSet
import Derived.Shelf.Strings.IndexAnyAll
import Derived.Shelf.Bits.Mul64
import Derived.Shelf.Strings.Repeat
import Derived.Shelf.Unicode.Is16White
import Derived.Shelf.Unicode.IsSpaceAny
import Derived.Shelf.Unicode.Is16Any
import Derived.Shelf.Unicode.Is32Any
import Derived.Shelf.Unicode.ExclAny
import Derived.Handy
import Derived.Test.YtmocnoiieiakhaaGreatDoorV29
import Derived.Laws.FloatArith
import Derived.Laws.BitsAllLaws
import Derived.Deep.LoopGhost
import Derived.Test.YtmocnoiieiakhaaGreatDoorV20
import Derived.Test.YtmocnoiieiakhaaGreatDoorV07
import Derived.Deep.RegionHeld3
import Derived.Sort.AtCallIn
import Derived.Lib.BitFns
import Derived.Test.YtmocnoiieiakhaaGreatDoorV01
import Derived.Deep.OwnRows
import Derived.Laws.CopyOwn
import Derived.Deep.RegionWith
import Derived.Maps.AppendAt
import Derived.Test.YtmocnoiieiakhaaGreatDoorV06
import Derived.Test.YtmocnoiieiakhaaGreatDoorV05
import Derived.Test.YtmocnoiieiakhaaGreatDoorV11
import Derived.Lib.OthersKept
import Derived.Lib.ParseIntBCases
import Derived.Lib.AtoiErrMem
import Derived.LaidSub
import Derived.Lib.LaidTab
import Derived.Lib.SmallJoins
import Derived.Laws.AppendOwnNone
import Derived.Laws.IdiomStrings
import Derived.LoopTactic
import Derived.Deep.DrawnRows
import Derived.Lib.AppendIntMem
import Derived.Test.YtmocnoiieiakhaaGreatDoorV42
import Derived.Deep.QuietTactic
import Derived.BigQuiet
import Derived.Deep.Strs
import Derived.OpenShut
import Derived.ShutString
import Derived.Test.YtmocnoiieiakhaaGreatDoorV27
namespace Go.Proofs.YtmocnoiieiakhaaGreatDoor
open Go Go.RowKit
namespace LM
set_option linter.unusedVariables false

end LM
end Go.Proofs.YtmocnoiieiakhaaGreatDoor

namespace Go.Proofs.YtmocnoiieiakhaaGreatDoor
open Go Go.RowKit
namespace LM
set_option linter.unusedVariables false

end LM
end Go.Proofs.YtmocnoiieiakhaaGreatDoor

namespace Go.Proofs.YtmocnoiieiakhaaGreatDoor
open Go Go.RowKit
namespace LM
set_option linter.unusedVariables false

end LM
end Go.Proofs.YtmocnoiieiakhaaGreatDoor

namespace Go.Proofs.YtmocnoiieiakhaaGreatDoor
open Go Go.RowKit
namespace LM
set_option linter.unusedVariables false

end LM
end Go.Proofs.YtmocnoiieiakhaaGreatDoor

namespace Go.Proofs.YtmocnoiieiakhaaGreatDoor
open Go Go.RowKit
namespace LM
set_option linter.unusedVariables false

end LM
end Go.Proofs.YtmocnoiieiakhaaGreatDoor

namespace Go.Proofs.YtmocnoiieiakhaaGreatDoor
open Go Go.RowKit
namespace LM
set_option linter.unusedVariables false
attribute [local go_sem] run_store_flt

end LM
end Go.Proofs.YtmocnoiieiakhaaGreatDoor

namespace Go.Proofs.YtmocnoiieiakhaaGreatDoor
open Go Go.RowKit
namespace LM
set_option linter.unusedVariables false
attribute [local go_sem] run_store_flt

end LM
end Go.Proofs.YtmocnoiieiakhaaGreatDoor

namespace Go.Proofs.YtmocnoiieiakhaaGreatDoor
open Go Go.RowKit
namespace LM
set_option linter.unusedVariables false
attribute [local go_sem] run_store_flt

end LM
end Go.Proofs.YtmocnoiieiakhaaGreatDoor

namespace Go.Proofs.YtmocnoiieiakhaaGreatDoor
open Go Go.RowKit
namespace LM
set_option linter.unusedVariables false
attribute [local go_sem] run_store_flt

end LM
end Go.Proofs.YtmocnoiieiakhaaGreatDoor

namespace Go.Proofs.YtmocnoiieiakhaaGreatDoor
open Go Go.RowKit
namespace LM
set_option linter.unusedVariables false
attribute [local go_sem] run_store_flt

end LM
end Go.Proofs.YtmocnoiieiakhaaGreatDoor

namespace Go.Proofs.YtmocnoiieiakhaaGreatDoor
open Go Go.RowKit
namespace LM
set_option linter.unusedVariables false
attribute [local go_sem] run_store_flt

end LM
end Go.Proofs.YtmocnoiieiakhaaGreatDoor

namespace Go.Proofs.YtmocnoiieiakhaaGreatDoor
open Go Go.RowKit
namespace LM
set_option linter.unusedVariables false
attribute [local go_sem] run_store_flt

end LM
end Go.Proofs.YtmocnoiieiakhaaGreatDoor

namespace Go.Proofs.YtmocnoiieiakhaaGreatDoor
open Go Go.RowKit
namespace LM
set_option linter.unusedVariables false
attribute [local go_sem] run_store_flt

end LM
end Go.Proofs.YtmocnoiieiakhaaGreatDoor

namespace Go.Proofs.YtmocnoiieiakhaaGreatDoor
open Go Go.RowKit Go.ChangeShapes Go.WideShapes Go.ChangeAt
namespace LM
set_option linter.unusedVariables false

/-! a number that came in -/
end LM
end Go.Proofs.YtmocnoiieiakhaaGreatDoor

namespace Go.Proofs.YtmocnoiieiakhaaGreatDoor
open Go Go.RowKit
namespace LM
set_option linter.unusedVariables false
attribute [local go_sem] run_store_flt

end LM
end Go.Proofs.YtmocnoiieiakhaaGreatDoor

namespace Go.Proofs.YtmocnoiieiakhaaGreatDoor
open Go Go.RowKit
namespace LM
set_option linter.unusedVariables false
attribute [local go_sem] run_store_flt

end LM
end Go.Proofs.YtmocnoiieiakhaaGreatDoor

namespace Go.Proofs.YtmocnoiieiakhaaGreatDoor
open Go Go.RowKit
namespace LM
set_option linter.unusedVariables false
attribute [local go_sem] run_store_flt

end LM
end Go.Proofs.YtmocnoiieiakhaaGreatDoor

namespace Go.Proofs.YtmocnoiieiakhaaGreatDoor
open Go Go.RowKit
namespace LM
set_option linter.unusedVariables false
attribute [local go_sem] run_store_flt

set_option maxRecDepth 100000 in
theorem cnum_any (n : Int) (w : World) : Calls Tryz.prog 54 #[.int .i64 n] w fun e w' => e = .returned (.bool (numB n)) ∧ Below w.heap.size w w' := by
  by_cases h1 : 0 ≤ n
  · have d1 : decide (0 ≤ n) = true := decide_eq_true h1
    have e1 : numB n = decide (n ≤ 16777215) := by unfold numB; rw [d1]; rfl
    have E1 := Lib.hid e1
    clear e1 h1
    go_enter Tryz.func54, Tryz.ntmps54
    go_wp2_with (fail)
    go_ret
    exact ⟨by rw [E1.out]; rfl, Below.refl _ _⟩
  · have d1 : decide (0 ≤ n) = false := decide_eq_false h1
    have e1 : numB n = false := by unfold numB; rw [d1]; rfl
    have E1 := Lib.hid e1
    clear e1 h1
    go_enter Tryz.func54, Tryz.ntmps54
    go_wp2_with (fail)
    go_ret
    exact ⟨by rw [E1.out]; rfl, Below.refl _ _⟩

set_option maxRecDepth 100000 in
theorem cnums_any (xs : List Int) (b off cap : Nat) (w : World) (hF : NumAt w b off xs) (hc1 : xs.length ≤ cap) (hc2 : cap ≤ 9223372036854775807) :
    Calls Tryz.prog 36 #[.slice (some ⟨b, off, none⟩) xs.length cap] w fun e w' => e = .returned (.bool (xs.all numB)) ∧ Below w.heap.size w w' := by
  have H := Lib.hid (cnall_any numB xs (some ⟨b, off, none⟩) cap b off w (fun _ => rfl) hF hc1 hc2 fun x _ W _ => cnum_any x W)
  obtain ⟨r, hr⟩ : ∃ r, xs.all numB = r := ⟨_, rfl⟩
  rw [hr] at H ⊢
  clear hF hr
  go_enter Tryz.func36, Tryz.ntmps36
  go_wp2_with (fail)
  refine H.out.mono ?_
  rintro e w1 ⟨rfl, hb1⟩
  have HB1 := Lib.hid hb1
  clear hb1
  go_wp2_with (fail)
  go_ret
  exact ⟨rfl, HB1.out⟩

/-- numbers that a call has just laid -/
theorem nums_laid (w : World) (xs : List Int) (t : TypeId) : NumAt (w.alloc (.cells (xs.map fun x => Value.int .i64 x).toArray t)) w.heap.size 0 xs := fun j x hx =>
  ⟨by simp, by
    rw [show (⟨w.heap.size, 0 + j, none⟩ : Addr) = ⟨w.heap.size, j, none⟩ by rw [Nat.zero_add], World.cell?_alloc_new]
    simp [hx]⟩

set_option maxRecDepth 100000 in
set_option maxHeartbeats 4000000 in
theorem cinstr_any (x : Ins) (w : World) : Calls Tryz.prog 38 #[insA x] w fun e w' => e = .returned (.bool (insB x)) ∧ Below w.heap.size w w' := by
  obtain ⟨W0, hW0⟩ : ∃ W0, w.alloc (insO x) = W0 := ⟨_, rfl⟩
  have hb0 : Below w.heap.size w W0 := by rw [← hW0]; exact (Below.refl _ w).alloc (Nat.le_refl _) _
  have ho : W0.heap[w.heap.size]? = some (insO x) := by rw [← hW0]; unfold World.alloc; simp
  have hsz : W0.heap.size = w.heap.size + 1 := by rw [← hW0]; simp
  have hn := nums_laid W0 [x.op, x.a, x.b] 3
  have hb1 : Below w.heap.size w (W0.alloc (.cells #[.int .i64 x.op, .int .i64 x.a, .int .i64 x.b] 3)) := hb0.alloc hb0.size _
  have H : Hid (Calls Tryz.prog 36 #[.slice (some ⟨w.heap.size + 1, 0, none⟩) 3 3] (W0.alloc (.cells #[.int .i64 x.op, .int .i64 x.a, .int .i64 x.b] 3)) fun e w' => e = .returned (.bool ([x.op, x.a, x.b].all numB)) ∧ Below (W0.alloc (.cells #[.int .i64 x.op, .int .i64 x.a, .int .i64 x.b] 3)).heap.size (W0.alloc (.cells #[.int .i64 x.op, .int .i64 x.a, .int .i64 x.b] 3)) w') := Lib.hid (by rw [← hsz]; exact cnums_any [x.op, x.a, x.b] W0.heap.size 0 3 _ hn (Nat.le_refl 3) (by decide))
  have HB1 := Lib.hid hb1
  have HW0 := Lib.hid hW0
  obtain ⟨y0, y1, y2⟩ := I3.of_block ho
  have E : Hid (insB x = [x.op, x.a, x.b].all numB) := Lib.hid rfl
  obtain ⟨r, hr⟩ : ∃ r, [x.op, x.a, x.b].all numB = r := ⟨_, rfl⟩
  rw [hr] at H E
  clear hW0 hb0 ho hn hb1 hr hsz
  go_enter Tryz.func38, Tryz.ntmps38
  go_wp2_with (fail)
  rw [HW0.out]
  refine H.out.mono ?_
  rintro e w1 ⟨rfl, hb1⟩
  have HB2 := Lib.hid (bel_trans (B := w.heap.size) HB1.out hb1)
  clear hb1
  go_wp2_with (fail)
  go_ret
  exact ⟨by rw [E.out]; rfl, HB2.out⟩

set_option maxRecDepth 100000 in
theorem cname_any (s : ByteArray) (w : World) : Calls Tryz.prog 22 #[.string s] w fun e w' => e = .returned (.bool (decide (s.size ≤ 100))) ∧ Below w.heap.size w w' := by
  have d1 : decide ((s.size : Int) ≤ 100) = decide (s.size ≤ 100) := decide_eq_decide.2 (by omega)
  go_enter Tryz.func22, Tryz.ntmps22
  go_wp2_with (fail)
  go_ret
  exact ⟨by first | rfl | simp [*], Below.refl _ _⟩

set_option maxRecDepth 100000 in
set_option maxHeartbeats 8000000 in
theorem cproc_any (p : Prh) (w : World) (hv : PrV w p) (hok : p.Ok) : Calls Tryz.prog 20 #[prA p] w fun e w' => e = .returned (.bool (prB p)) ∧ Below w.heap.size w w' := by
  obtain ⟨W0, hW0⟩ : ∃ W0, w.alloc (prO p) = W0 := ⟨_, rfl⟩
  have hb0 : Below w.heap.size w W0 := by rw [← hW0]; exact (Below.refl _ w).alloc (Nat.le_refl _) _
  have ho : W0.heap[w.heap.size]? = some (prO p) := by rw [← hW0]; unfold World.alloc; simp
  have hs0 : w.heap.size < W0.heap.size := by rw [← hW0]; simp
  have N1 := Lib.hid fun W => cname_any p.nm W
  have N2 : Hid (∀ W : World, Calls Tryz.prog 36 #[.slice (some ⟨W.heap.size, 0, none⟩) 4 4] (W.alloc (.cells #[.int .i64 p.pa, .int .i64 p.sl, .int .i64 p.de, .int .i64 p.fr] 3)) fun e w' => e = .returned (.bool ([p.pa, p.sl, p.de, p.fr].all numB)) ∧ Below (W.alloc (.cells #[.int .i64 p.pa, .int .i64 p.sl, .int .i64 p.de, .int .i64 p.fr] 3)).heap.size (W.alloc (.cells #[.int .i64 p.pa, .int .i64 p.sl, .int .i64 p.de, .int .i64 p.fr] 3)) w') := Lib.hid fun W =>
    cnums_any [p.pa, p.sl, p.de, p.fr] W.heap.size 0 4 _ (nums_laid W [p.pa, p.sl, p.de, p.fr] 3) (Nat.le_refl 4) (by decide)
  have N3 : Hid (∀ W, Below w.heap.size w W → Calls Tryz.prog 37 #[.slice p.B p.code.length p.cap, .func (.func 38) #[] #[]] W fun e w' => e = .returned (.bool (p.code.all insB)) ∧ Below W.heap.size W w') := Lib.hid fun W hW => by
    obtain ⟨b, off, hB, hF⟩ := hv.below hW
    exact ciall_any insB p.code p.B p.cap b off W hB hF hok.cap.1 hok.cap.2 fun x _ W2 _ => cinstr_any x W2
  have HB0 := Lib.hid hb0
  have HO := Lib.hid ho
  have HS := Lib.hid hs0
  have HW0 := Lib.hid hW0
  obtain ⟨y0, y1, y2, y3, y4, y5, y6⟩ := P7.of_block ho
  have E : Hid (prB p = (decide (p.nm.size ≤ 100) && ([p.pa, p.sl, p.de, p.fr].all numB && p.code.all insB))) := Lib.hid rfl
  obtain ⟨r1, hr1⟩ : ∃ r, decide (p.nm.size ≤ 100) = r := ⟨_, rfl⟩
  obtain ⟨r2, hr2⟩ : ∃ r, [p.pa, p.sl, p.de, p.fr].all numB = r := ⟨_, rfl⟩
  obtain ⟨r3, hr3⟩ : ∃ r, p.code.all insB = r := ⟨_, rfl⟩
  rw [hr1] at N1 E
  rw [hr2] at N2 E
  rw [hr3] at N3 E
  clear hW0 hb0 ho hs0 hr1 hr2 hr3 hv hok
  go_enter Tryz.func20, Tryz.ntmps20
  go_wp2_with (fail)
  rw [HW0.out]
  refine (N1.out _).mono ?_
  rintro e w1 ⟨rfl, hb1⟩
  have HB1 := Lib.hid (bel_trans (B := w.heap.size) HB0.out hb1)
  have K1 := Lib.hid ((P7.of_block HO.out).keep hb1 HS.out)
  have hs1 : w.heap.size < w1.heap.size := Nat.lt_of_lt_of_le HS.out hb1.size
  have HS1 := Lib.hid hs1
  clear hb1 y0 y1 y2 y3 y4 y5 y6 hs1
  cases r1
  · go_wp2_with (fail)
    go_ret
    exact ⟨by rw [E.out]; rfl, HB1.out⟩
  obtain ⟨y0, y1, y2, y3, y4, y5, y6⟩ := K1.out
  simp only [Nat.zero_add] at y0 y1 y2 y3 y4 y5 y6
  go_wp2_with (fail)
  refine (N2.out _).mono ?_
  rintro e w2 ⟨rfl, hb2⟩
  have hba : Below w1.heap.size w1 w2 := bel_trans (B := w1.heap.size) ((Below.refl _ w1).alloc (Nat.le_refl _) _) hb2
  have HB2 := Lib.hid (bel_trans (B := w.heap.size) HB1.out hba)
  have K2 := Lib.hid (K1.out.keep hba HS1.out)
  clear hb2 hba y0 y1 y2 y3 y4 y5 y6
  cases r2
  · go_wp2_with (fail)
    go_ret
    exact ⟨by rw [E.out]; rfl, HB2.out⟩
  obtain ⟨y0, y1, y2, y3, y4, y5, y6⟩ := K2.out
  simp only [Nat.zero_add] at y0 y1 y2 y3 y4 y5 y6
  go_wp2_with (fail)
  refine (N3.out _ HB2.out).mono ?_
  rintro e w3 ⟨rfl, hb3⟩
  have HB3 := Lib.hid (bel_trans (B := w.heap.size) HB2.out hb3)
  clear hb3
  go_wp2_with (fail)
  go_ret
  exact ⟨by rw [E.out]; rfl, HB3.out⟩

end LM
end Go.Proofs.YtmocnoiieiakhaaGreatDoor
