/- Walks of the library: a number of few digits, reckoned with floating numbers. -/
import Derived.Test.YtdhjbhcfkajfdaaGreatDoorC24
import Derived.Test.YtdhjbhcfkajfdaaGreatDoorProg
import Derived.Test.YtdhjbhcfkajfdaaGreatDoorC02
import Derived.Test.YtdhjbhcfkajfdaaGreatDoorC09
import Derived.Handy
import Derived.Test.YtdhjbhcfkajfdaaGreatDoorC23
import Derived.Laws.FloatArith
import Derived.Laws.BitsAllLaws
import Derived.Deep.LoopGhost
import Derived.Test.YtdhjbhcfkajfdaaGreatDoorC26
import Derived.Test.YtdhjbhcfkajfdaaGreatDoorC10
import Derived.Laws.MakeOwn
import Derived.Lib.IndexLaws
import GoSem.Extern.MathFloor
import Derived.Test.YtdhjbhcfkajfdaaGreatDoorC01
import Derived.Deep.QuietTactic
import Derived.BigQuiet
import Derived.Outline
namespace Go.Proofs.YtdhjbhcfkajfdaaGreatDoor
open Go Go.Shelf Go.RowKit Go.Sort Go.Lib
namespace LM
set_option linter.unusedVariables false

set_option maxHeartbeats 1000000 in
theorem isNaN_any (b : Nat) (w : World) (hb : b < 18446744073709551616) :
    Calls Tryz.prog 202 #[.float .f64 b] w fun e w' => e = .returned (.bool (decide (nanW b))) ∧ w = w' := by
  have h1 := order_self b hb
  by_cases h : nanW b
  · rw [if_pos h] at h1
    have h2 : FloatKind.f64.format.order b b = none := h1
    rw [decide_eq_true h]
    clear h1 h
    go_enter Tryz.func202, Tryz.ntmps202
    go_wp2
    go_ret
    exact ⟨rfl, rfl⟩
  · rw [if_neg h] at h1
    have h2 : FloatKind.f64.format.order b b = some .eq := h1
    rw [decide_eq_false h]
    clear h1 h
    go_enter Tryz.func202, Tryz.ntmps202
    go_wp2
    go_ret
    exact ⟨rfl, rfl⟩

end LM
end Go.Proofs.YtdhjbhcfkajfdaaGreatDoor

namespace Go.Proofs.YtdhjbhcfkajfdaaGreatDoor
open Go Go.RowKit
namespace LM
set_option linter.unusedVariables false

end LM
end Go.Proofs.YtdhjbhcfkajfdaaGreatDoor

namespace Go.Proofs.YtdhjbhcfkajfdaaGreatDoor
open Go Go.RowKit
namespace LM
set_option linter.unusedVariables false

end LM
end Go.Proofs.YtdhjbhcfkajfdaaGreatDoor

namespace Go.Proofs.YtdhjbhcfkajfdaaGreatDoor
open Go Go.RowKit
namespace LM
set_option linter.unusedVariables false

end LM
end Go.Proofs.YtdhjbhcfkajfdaaGreatDoor

namespace Go.Proofs.YtdhjbhcfkajfdaaGreatDoor
open Go Go.RowKit
namespace LM
set_option linter.unusedVariables false

/-- a word in one form -/
def canW (b : Nat) : Nat := if nanW b then 9221120237041090561 else b

set_option maxRecDepth 100000 in
set_option maxHeartbeats 1000000 in
theorem bits_any (b : Nat) (w : World) (hb : b < 18446744073709551616) :
    Calls Tryz.prog 197 #[.float .f64 b] w fun e w' => e = .returned (.int .u64 ((canW b : Nat) : Int)) ∧ w = w' := by
  have N1 := Lib.hid fun W => isNaN_any b W hb
  have h1 := run_mbits b
  unfold canW
  by_cases h : nanW b
  · rw [if_pos h]
    rw [decide_eq_true h] at N1
    clear h
    go_enter Tryz.func197, Tryz.ntmps197
    go_wp2_with (fail)
    refine (N1.out _).mono ?_
    rintro e w' ⟨rfl, rfl⟩
    go_wp2
    go_ret
    exact ⟨rfl, rfl⟩
  · rw [if_neg h]
    rw [decide_eq_false h] at N1
    clear h
    go_enter Tryz.func197, Tryz.ntmps197
    go_wp2_with (fail)
    refine (N1.out _).mono ?_
    rintro e w' ⟨rfl, rfl⟩
    go_wp2
    go_ret
    exact ⟨rfl, rfl⟩

theorem canW_lt {b : Nat} (hb : b < 18446744073709551616) : canW b < 18446744073709551616 := by
  unfold canW
  split
  · decide
  · exact hb

set_option maxRecDepth 100000 in
set_option maxHeartbeats 1000000 in
theorem same_flo (a b : Nat) (w : World) (ha : a < 18446744073709551616) (hb : b < 18446744073709551616) :
    Calls Tryz.prog 166 #[.float .f64 a, .float .f64 b] w fun e w' => e = .returned (.bool (canW a == canW b)) ∧ w = w' := by
  have B1 := Lib.hid fun W => bits_any a W ha
  have B2 := Lib.hid fun W => bits_any b W hb
  have hA := canW_lt ha
  have hB := canW_lt hb
  generalize canW a = A at *
  generalize canW b = C at *
  have hd : ((A : Int) == (C : Int)) = (A == C) := by
    rw [Bool.eq_iff_iff, beq_iff_eq, beq_iff_eq]; omega
  go_enter Tryz.func166, Tryz.ntmps166
  go_wp2_with (fail)
  refine (B1.out _).mono ?_
  rintro e w' ⟨rfl, rfl⟩
  go_wp2_with (fail)
  refine (B2.out _).mono ?_
  rintro e w' ⟨rfl, rfl⟩
  go_wp2
  go_ret
  exact ⟨rfl, rfl⟩
end LM
end Go.Proofs.YtdhjbhcfkajfdaaGreatDoor

namespace Go.Proofs.YtdhjbhcfkajfdaaGreatDoor
open Go Go.Shelf Go.RowKit Go.Sort Go.Lib
namespace LM
set_option linter.unusedVariables false

end LM
end Go.Proofs.YtdhjbhcfkajfdaaGreatDoor

namespace Go.Proofs.YtdhjbhcfkajfdaaGreatDoor
open Go Go.Shelf Go.RowKit Go.Sort Go.Lib
namespace LM
set_option linter.unusedVariables false

end LM
end Go.Proofs.YtdhjbhcfkajfdaaGreatDoor

namespace Go.Proofs.YtdhjbhcfkajfdaaGreatDoor
open Go Go.Shelf Go.RowKit Go.Sort Go.Lib
namespace LM
set_option linter.unusedVariables false

/-- the library's powers of ten as floating numbers -/
def f64Rows : List Nat := [4607182418800017408, 4621819117588971520, 4636737291354636288, 4652007308841189376, 4666723172467343360, 4681608360884174848, 4696837146684686336, 4711630319722168320, 4726483295884279808, 4741671816366391296, 4756540486875873280, 4771362005757984768, 4786511204640096256, 4801453603149578240, 4816244402031689728, 4831355200913801216, 4846369599423283200, 4861130398305394688, 4876203697187506176, 4891288408196988160, 4906019910204099648, 4921056587992461136, 4936209963552724370]
/-- what the package variables hold -/
structure FV (w : World) : Prop where
  pow : PTab w
  tab : Lib.TabIs Tryz.prog w "internal/strconv.uint64pow10" .u64 Lib.pow10Tab
  info : w.cell? ⟨12, 0, none⟩ = some (.int .u64 52)
  opt : w.cell? ⟨5, 0, none⟩ = some (.bool true)
  f64 : ∃ b n c, w.cell? ⟨16, 0, none⟩ = some (.slice (some ⟨b, n, none⟩) 23 c) ∧ b < w.heap.size ∧ ∀ j x, f64Rows[j]? = some x → w.cell? ⟨b, n + j, none⟩ = some (.float .f64 x)
  size : 12 < w.heap.size ∧ 5 < w.heap.size ∧ 16 < w.heap.size ∧ 9 < w.heap.size

end LM
end Go.Proofs.YtdhjbhcfkajfdaaGreatDoor

namespace Go.Proofs.YtdhjbhcfkajfdaaGreatDoor
open Go Go.Shelf Go.RowKit Go.Sort Go.Lib
namespace LM
set_option linter.unusedVariables false

end LM
end Go.Proofs.YtdhjbhcfkajfdaaGreatDoor

namespace Go.Proofs.YtdhjbhcfkajfdaaGreatDoor
open Go Go.Shelf Go.RowKit Go.Sort Go.Lib
namespace LM
set_option linter.unusedVariables false

end LM
end Go.Proofs.YtdhjbhcfkajfdaaGreatDoor

namespace Go.Proofs.YtdhjbhcfkajfdaaGreatDoor
open Go Go.Shelf Go.RowKit Go.Sort Go.Lib
namespace LM
set_option linter.unusedVariables false

end LM
end Go.Proofs.YtdhjbhcfkajfdaaGreatDoor

namespace Go.Proofs.YtdhjbhcfkajfdaaGreatDoor
open Go Go.Shelf Go.RowKit Go.Sort Go.Lib
open Ieee
namespace LM
set_option linter.unusedVariables false

end LM
end Go.Proofs.YtdhjbhcfkajfdaaGreatDoor
