/- Walks of the document: the text of any number. -/
import Derived.Test.YtdhjbhcfkajfdaaGreatDoorC27
import Derived.Test.YtdhjbhcfkajfdaaGreatDoorProg
import Derived.Test.YtdhjbhcfkajfdaaGreatDoorC02
import Derived.Test.YtdhjbhcfkajfdaaGreatDoorC09
import Derived.Handy
import Derived.Test.YtdhjbhcfkajfdaaGreatDoorC23
import Derived.Laws.FloatArith
import Derived.Laws.BitsAllLaws
import Derived.Deep.LoopGhost
import Derived.Test.YtdhjbhcfkajfdaaGreatDoorC20
import Derived.Test.YtdhjbhcfkajfdaaGreatDoorC08
import Derived.Test.YtdhjbhcfkajfdaaGreatDoorC14
import Derived.Test.YtdhjbhcfkajfdaaGreatDoorC07
import Derived.Test.YtdhjbhcfkajfdaaGreatDoorC10
import Derived.Lib.SmallJoins
import Derived.Laws.AppendOwnNone
import Derived.Deep.OwnRows
import Derived.Laws.CopyOwn
import Derived.Test.YtdhjbhcfkajfdaaGreatDoorC03
import Derived.Test.YtdhjbhcfkajfdaaGreatDoorC01
import Derived.Deep.RegionWith
import Derived.Maps.AppendAt
import Derived.Laws.IdiomStrings
import Derived.LoopTactic
import Derived.Deep.DrawnRows
import Derived.Test.YtdhjbhcfkajfdaaGreatDoorC33
import Derived.Deep.RegionHeld3
import Derived.Test.YtdhjbhcfkajfdaaGreatDoorC36
import Derived.Test.YtdhjbhcfkajfdaaGreatDoorC19
import Derived.Deep.Strs
import Derived.OpenShut
import Derived.ShutString
import Derived.Test.YtdhjbhcfkajfdaaGreatDoorC41
import GoSem.Extern.MathFloor
import Derived.Lib.Atoi
import Derived.Lib.ItoaNum
namespace Go.Proofs.YtdhjbhcfkajfdaaGreatDoor
open Go Go.RowKit
namespace LM
set_option linter.unusedVariables false

end LM
end Go.Proofs.YtdhjbhcfkajfdaaGreatDoor

namespace Go.Proofs.YtdhjbhcfkajfdaaGreatDoor
open Go Go.RowKit
namespace LM
set_option linter.unusedVariables false

end LM
end Go.Proofs.YtdhjbhcfkajfdaaGreatDoor

namespace Go.Proofs.YtdhjbhcfkajfdaaGreatDoor
open Go Go.RowKit
namespace LM
set_option linter.unusedVariables false

end LM
end Go.Proofs.YtdhjbhcfkajfdaaGreatDoor

namespace Go.Proofs.YtdhjbhcfkajfdaaGreatDoor
open Go Go.RowKit
namespace LM
set_option linter.unusedVariables false

end LM
end Go.Proofs.YtdhjbhcfkajfdaaGreatDoor

namespace Go.Proofs.YtdhjbhcfkajfdaaGreatDoor
open Go Go.RowKit
namespace LM
set_option linter.unusedVariables false

end LM
end Go.Proofs.YtdhjbhcfkajfdaaGreatDoor

namespace Go.Proofs.YtdhjbhcfkajfdaaGreatDoor
open Go Go.RowKit
namespace LM
set_option linter.unusedVariables false
attribute [local go_sem] run_store_flt

theorem two_num (w : World) (fl : Bool) (f : Nat) (s : Bool) (A : Option Addr) (n c : Nat) (fl' : Bool) (f' : Nat) (s' : Bool) (A' : Option Addr) (n' c' : Nat) :
    ∃ W, (w.alloc (numO fl f s A n c)).alloc (numO fl' f' s' A' n' c') = W ∧ Below w.heap.size w W ∧ Obs W [(w.heap.size + 1, numO fl' f' s' A' n' c'), (w.heap.size, numO fl f s A n c)] := by
  refine ⟨_, rfl, ((Below.refl _ w).alloc (Nat.le_refl _) _).alloc (by simp) _, ?_⟩
  have h := (Obs.nil.new (w := w) (numO fl f s A n c)).new (numO fl' f' s' A' n' c')
  simp only [World.size_alloc] at h
  exact h

end LM
end Go.Proofs.YtdhjbhcfkajfdaaGreatDoor

namespace Go.Proofs.YtdhjbhcfkajfdaaGreatDoor
open Go Go.RowKit
namespace LM
set_option linter.unusedVariables false
attribute [local go_sem] run_store_flt

end LM
end Go.Proofs.YtdhjbhcfkajfdaaGreatDoor

namespace Go.Proofs.YtdhjbhcfkajfdaaGreatDoor
open Go Go.RowKit
namespace LM
set_option linter.unusedVariables false
attribute [local go_sem] run_store_flt

end LM
end Go.Proofs.YtdhjbhcfkajfdaaGreatDoor

namespace Go.Proofs.YtdhjbhcfkajfdaaGreatDoor
open Go Go.RowKit
namespace LM
set_option linter.unusedVariables false
attribute [local go_sem] run_store_flt

end LM
end Go.Proofs.YtdhjbhcfkajfdaaGreatDoor

namespace Go.Proofs.YtdhjbhcfkajfdaaGreatDoor
open Go Go.RowKit
namespace LM
set_option linter.unusedVariables false
attribute [local go_sem] run_store_flt

end LM
end Go.Proofs.YtdhjbhcfkajfdaaGreatDoor

namespace Go.Proofs.YtdhjbhcfkajfdaaGreatDoor
open Go Go.RowKit
namespace LM
set_option linter.unusedVariables false
attribute [local go_sem] run_store_flt

end LM
end Go.Proofs.YtdhjbhcfkajfdaaGreatDoor

namespace Go.Proofs.YtdhjbhcfkajfdaaGreatDoor
open Go Go.RowKit
namespace LM
set_option linter.unusedVariables false
attribute [local go_sem] run_store_flt

set_option maxRecDepth 100000 in
set_option maxHeartbeats 1000000 in
theorem tsame_ff (f f' : Nat) (s : Bool) (A : Option Addr) (n c : Nat) (s' : Bool) (A' : Option Addr) (n' c' : Nat) (w : World)
    (b : Bool) (hC : ∀ W, Calls Tryz.prog 166 #[.float .f64 f, .float .f64 f'] W fun e w' => e = .returned (.bool b) ∧ W = w') :
    Calls Tryz.prog 119 #[numA true f s A n c, numA true f' s' A' n' c'] w fun e w' => e = .returned (.bool b) ∧ Below w.heap.size w w' := by
  obtain ⟨W0, hW0, hb0, hO⟩ := two_num w true f s A n c true f' s' A' n' c'
  have HB0 := Lib.hid hb0
  have HW0 := Lib.hid hW0
  have C1 := Lib.hid ((hC W0).mono fun e w' ⟨h1, h2⟩ => (show e = Ending.returned (.bool b) ∧ Below W0.heap.size W0 w' from ⟨h1, h2 ▸ Below.refl _ _⟩))
  clear hb0 hO hW0 hC
  go_enter Tryz.func119, Tryz.ntmps119
  go_wp2_with (fail)
  rw [HW0.out]
  refine C1.out.mono ?_
  rintro e w1 ⟨rfl, hb1⟩
  go_wp2_with (fail)
  go_ret
  exact ⟨rfl, bel_trans (B := w.heap.size) HB0.out hb1⟩
set_option maxRecDepth 100000 in
set_option maxHeartbeats 1000000 in
theorem tsame_ii (f f' : Nat) (s : Bool) (A : Option Addr) (n c : Nat) (s' : Bool) (A' : Option Addr) (n' c' : Nat) (w : World)
    (b : Bool) (hC : ∀ W, Below w.heap.size w W → Calls Tryz.prog 167 #[.agg #[.bool s, .slice A n c], .agg #[.bool s', .slice A' n' c']] W fun e w' => e = .returned (.bool b) ∧ Below W.heap.size W w') :
    Calls Tryz.prog 119 #[numA false f s A n c, numA false f' s' A' n' c'] w fun e w' => e = .returned (.bool b) ∧ Below w.heap.size w w' := by
  obtain ⟨W0, hW0, hb0, hO⟩ := two_num w false f s A n c false f' s' A' n' c'
  have HB0 := Lib.hid hb0
  have HW0 := Lib.hid hW0
  have C1 := Lib.hid (hC W0 hb0)
  clear hb0 hO hW0 hC
  go_enter Tryz.func119, Tryz.ntmps119
  go_wp2_with (fail)
  rw [HW0.out]
  refine C1.out.mono ?_
  rintro e w1 ⟨rfl, hb1⟩
  go_wp2_with (fail)
  go_ret
  exact ⟨rfl, bel_trans (B := w.heap.size) HB0.out hb1⟩
set_option maxRecDepth 100000 in
set_option maxHeartbeats 1000000 in
theorem tsame_if (f f' : Nat) (s : Bool) (A : Option Addr) (n c : Nat) (s' : Bool) (A' : Option Addr) (n' c' : Nat) (w : World) :
    Calls Tryz.prog 119 #[numA false f s A n c, numA true f' s' A' n' c'] w fun e w' => e = .returned (.bool false) ∧ Below w.heap.size w w' := by
  obtain ⟨W0, hW0, hb0, hO⟩ := two_num w false f s A n c true f' s' A' n' c'
  have HB0 := Lib.hid hb0
  have HW0 := Lib.hid hW0
  obtain ⟨p0, p1, p2, p3, -, -, -, -, pl⟩ := hO.nx0.facts
  obtain ⟨q0, q1, q2, q3, -, -, -, -, ql⟩ := hO.tl.nx0.facts
  subst hW0
  clear hb0 hO
  go_enter Tryz.func119, Tryz.ntmps119
  go_wp2_with (fail)
  go_ret
  exact ⟨rfl, HB0.out⟩
set_option maxRecDepth 100000 in
set_option maxHeartbeats 1000000 in
theorem tsame_fi (f f' : Nat) (s : Bool) (A : Option Addr) (n c : Nat) (s' : Bool) (A' : Option Addr) (n' c' : Nat) (w : World) :
    Calls Tryz.prog 119 #[numA true f s A n c, numA false f' s' A' n' c'] w fun e w' => e = .returned (.bool false) ∧ Below w.heap.size w w' := by
  obtain ⟨W0, hW0, hb0, hO⟩ := two_num w true f s A n c false f' s' A' n' c'
  have HB0 := Lib.hid hb0
  have HW0 := Lib.hid hW0
  obtain ⟨p0, p1, p2, p3, -, -, -, -, pl⟩ := hO.nx0.facts
  obtain ⟨q0, q1, q2, q3, -, -, -, -, ql⟩ := hO.tl.nx0.facts
  subst hW0
  clear hb0 hO
  go_enter Tryz.func119, Tryz.ntmps119
  go_wp2_with (fail)
  go_ret
  exact ⟨rfl, HB0.out⟩
end LM
end Go.Proofs.YtdhjbhcfkajfdaaGreatDoor

namespace Go.Proofs.YtdhjbhcfkajfdaaGreatDoor
open Go Go.RowKit
namespace LM
set_option linter.unusedVariables false
attribute [local go_sem] run_store_flt

/-- can it be? -/
def rightN (fl : Bool) (f : Nat) (s : Bool) (xs : List Nat) : Bool := if fl then (!s && decide (xs.length = 0)) else (decide (f = 0) && rightB s xs)

end LM
end Go.Proofs.YtdhjbhcfkajfdaaGreatDoor

namespace Go.Proofs.YtdhjbhcfkajfdaaGreatDoor
open Go Go.RowKit Go.ChangeShapes Go.WideShapes Go.ChangeAt
namespace LM
set_option linter.unusedVariables false

/-! a number that came in -/
end LM
end Go.Proofs.YtdhjbhcfkajfdaaGreatDoor

namespace Go.Proofs.YtdhjbhcfkajfdaaGreatDoor
open Go Go.RowKit
namespace LM
set_option linter.unusedVariables false
attribute [local go_sem] run_store_flt

/-- a number that can be, as it is read -/
def NumOk (w : World) (fl : Bool) (f : Nat) (s : Bool) (A : Option Addr) (n c : Nat) : Prop := f < 18446744073709551616 ∧ (fl = true ∨ (fl = false ∧ ∃ x, IntV w (.agg #[.bool s, .slice A n c]) x ∧ ¬ BigI x))
theorem numOk_of {fl : Bool} {f : Nat} {s : Bool} {A : Option Addr} {c : Nat} {xs : List Nat} {w : World} (hr : rightN fl f s xs = true) (hf : f < 18446744073709551616) (ha : Rd w A xs) (hx : Lm xs) (hca : xs.length ≤ c) (hcm : c ≤ 9223372036854775807) : NumOk w fl f s A xs.length c := by
  refine ⟨hf, ?_⟩
  cases fl
  · right
    unfold rightN at hr
    rw [if_neg (by decide), Bool.and_eq_true] at hr
    exact ⟨rfl, _, (intV_of hr.2 ha hx hca hcm).1, (intV_of hr.2 ha hx hca hcm).2⟩
  · exact .inl rfl
abbrev CallB (w : World) (f : FuncId) (args : Array Value) (r : Value) : Prop := ∀ W, Below w.heap.size w W → Calls Tryz.prog f args W fun e w' => e = .returned r ∧ Below W.heap.size W w'

end LM
end Go.Proofs.YtdhjbhcfkajfdaaGreatDoor

namespace Go.Proofs.YtdhjbhcfkajfdaaGreatDoor
open Go Go.RowKit
namespace LM
set_option linter.unusedVariables false
attribute [local go_sem] run_store_flt

set_option maxRecDepth 100000 in
set_option maxHeartbeats 2000000 in
theorem tright_f (f : Nat) (s : Bool) (A : Option Addr) (n c : Nat) (w : World) :
    Calls Tryz.prog 148 #[numA true f s A n c] w fun e w' => e = .returned (.bool (!s && decide (n = 0))) ∧ Below w.heap.size w w' := by
  have Y0 := Nx.new w true f s A n c
  have hb0 : Below w.heap.size w (w.alloc (numO true f s A n c)) := (Below.refl _ w).alloc (Nat.le_refl _) _
  obtain ⟨y0, y1, y2, y3, -, -, -, -, yl⟩ := Y0.facts
  have HB0 := Lib.hid hb0
  have N1 := Lib.hid (tnothing_any s A n c (w.alloc (numO true f s A n c)))
  clear hb0 Y0
  cases s
  · go_enter Tryz.func148, Tryz.ntmps148
    go_wp2_with (fail)
    refine N1.out.mono ?_
    rintro e w1 ⟨rfl, hb1⟩
    go_wp2_with (fail)
    go_ret
    exact ⟨by simp, bel_trans (B := w.heap.size) HB0.out hb1⟩
  · go_enter Tryz.func148, Tryz.ntmps148
    go_wp2_with (fail)
    go_ret
    exact ⟨by simp, HB0.out⟩

set_option maxRecDepth 100000 in
set_option maxHeartbeats 2000000 in
theorem tright_i (f : Nat) (hf : f < 18446744073709551616) (s : Bool) (A : Option Addr) (n c : Nat) (rb : Bool) (w : World) (hR : CallB w 198 #[.agg #[.bool s, .slice A n c]] (.bool rb)) :
    Calls Tryz.prog 148 #[numA false f s A n c] w fun e w' => e = .returned (.bool (decide (f = 0) && rb)) ∧ Below w.heap.size w w' := by
  have Y0 := Nx.new w false f s A n c
  have hb0 : Below w.heap.size w (w.alloc (numO false f s A n c)) := (Below.refl _ w).alloc (Nat.le_refl _) _
  obtain ⟨y0, y1, y2, y3, -, -, -, -, yl⟩ := Y0.facts
  have HB0 := Lib.hid hb0
  have HR := Lib.hid (hR _ hb0)
  have B1 := Lib.hid fun W => bits_any f W hf
  have hz : ((canW f : Nat) : Int) = 0 ↔ f = 0 := by
    unfold canW
    split
    · rename_i h; unfold nanW at h; omega
    · omega
  obtain ⟨g, hg⟩ : ∃ g, canW f = g := ⟨_, rfl⟩
  rw [hg] at hz B1
  clear hb0 Y0 hR hg
  by_cases h0 : f = 0
  · obtain rfl : g = 0 := by omega
    have h2 : decide (f = 0) = true := decide_eq_true h0
    rw [h2]
    clear h2 h0 hz
    go_enter Tryz.func148, Tryz.ntmps148
    go_wp2_with (fail)
    refine (B1.out _).mono ?_
    rintro e w1 ⟨rfl, rfl⟩
    go_wp2_with (fail)
    refine HR.out.mono ?_
    rintro e w1 ⟨rfl, hb1⟩
    go_wp2_with (fail)
    go_ret
    exact ⟨by simp, bel_trans (B := w.heap.size) HB0.out hb1⟩
  · have h1 : ((g : Int) == 0) = false := by rw [beq_eq_false_iff_ne]; omega
    have h2 : decide (f = 0) = false := decide_eq_false h0
    rw [h2]
    clear h2 h0 hz
    go_enter Tryz.func148, Tryz.ntmps148
    go_wp2_with (fail)
    refine (B1.out _).mono ?_
    rintro e w1 ⟨rfl, rfl⟩
    go_wp2_with (fail)
    go_ret
    exact ⟨by simp, HB0.out⟩

theorem tright_any (fl : Bool) (f : Nat) (hf : f < 18446744073709551616) (s : Bool) (A : Option Addr) (c : Nat) (xs : List Nat) (w : World) (ha : Rd w A xs) (hx : Lm xs) (hl : xs.length ≤ 1000) :
    Calls Tryz.prog 148 #[numA fl f s A xs.length c] w fun e w' => e = .returned (.bool (rightN fl f s xs)) ∧ Below w.heap.size w w' := by
  unfold rightN
  cases fl
  · rw [if_neg (by decide)]
    exact tright_i f hf s A xs.length c _ w fun W hW => eright_any s A c xs W (ha.below hW) hx hl
  · rw [if_pos rfl]
    exact tright_f f s A xs.length c w

/-- is a number the zero value -/
def nothB (fl : Bool) (f : Nat) (s : Bool) (xs : List Nat) : Bool := !fl && decide (xs.length = 0) && rightN fl f s xs
set_option maxRecDepth 100000 in
set_option maxHeartbeats 2000000 in
theorem dnothing_any (fl : Bool) (f : Nat) (s : Bool) (A : Option Addr) (n c : Nat) (rb : Bool) (w : World) (hR : CallB w 148 #[numA fl f s A n c] (.bool rb)) :
    Calls Tryz.prog 195 #[numA fl f s A n c] w fun e w' => e = .returned (.bool (!fl && decide (n = 0) && rb)) ∧ Below w.heap.size w w' := by
  have Y0 := Nx.new w fl f s A n c
  have hb0 : Below w.heap.size w (w.alloc (numO fl f s A n c)) := (Below.refl _ w).alloc (Nat.le_refl _) _
  obtain ⟨y0, y1, y2, y3, -, -, -, -, yl⟩ := Y0.facts
  have HB0 := Lib.hid hb0
  have HR := Lib.hid (hR _ hb0)
  clear hb0 Y0 hR
  cases fl
  · by_cases hn : n = 0
    · subst hn
      go_enter Tryz.func195, Tryz.ntmps195
      go_wp2_with (fail)
      refine HR.out.mono ?_
      rintro e w1 ⟨rfl, hb1⟩
      go_wp2_with (fail)
      go_ret
      exact ⟨by simp, bel_trans (B := w.heap.size) HB0.out hb1⟩
    · have h1 : ((n : Int) == 0) = false := by rw [beq_eq_false_iff_ne]; omega
      have h2 : decide (n = 0) = false := decide_eq_false hn
      rw [h2]
      clear h2 hn
      go_enter Tryz.func195, Tryz.ntmps195
      go_wp2_with (fail)
      go_ret
      exact ⟨by simp, HB0.out⟩
  · go_enter Tryz.func195, Tryz.ntmps195
    go_wp2_with (fail)
    go_ret
    exact ⟨by simp, HB0.out⟩

end LM
end Go.Proofs.YtdhjbhcfkajfdaaGreatDoor

namespace Go.Proofs.YtdhjbhcfkajfdaaGreatDoor
open Go Go.RowKit
namespace LM
set_option linter.unusedVariables false
attribute [local go_sem] run_store_flt

/-- has a datum nothing but what its kind has: by its kind; is N 0, is the number nothing, is the text empty, are there no Items -/
def elseB (k : Int) (bn nb bt bi : Bool) : Bool :=
  (decide (k = 1 ∨ k = 2) || bn) && (decide (k = 0) || nb) && (decide (k = 3 ∨ k = 4) || bt) && (decide (5 ≤ k ∧ k ≤ 7) || bi)

theorem dat_block (w : World) (h : Hd) (n : Nat) : ∃ W0, w.alloc (datO h n) = W0 ∧ Below w.heap.size w W0 ∧ W0.heap[w.heap.size]? = some (datO h n) ∧ w.heap.size < W0.heap.size :=
  ⟨_, rfl, (Below.refl _ w).alloc (Nat.le_refl _) _, by unfold World.alloc; simp, by simp⟩
theorem kinds (k : Int) : k = 0 ∨ k = 1 ∨ k = 2 ∨ k = 3 ∨ k = 4 ∨ k = 5 ∨ k = 6 ∨ k = 7 ∨ ((k == 0) = false ∧ (k == 1) = false ∧ (k == 2) = false ∧ (k == 3) = false ∧ (k == 4) = false ∧ (k == 5) = false ∧ (k == 6) = false ∧ (k == 7) = false) := by
  by_cases h0 : k = 0; · exact .inl h0
  by_cases h1 : k = 1; · exact .inr (.inl h1)
  by_cases h2 : k = 2; · exact .inr (.inr (.inl h2))
  by_cases h3 : k = 3; · exact .inr (.inr (.inr (.inl h3)))
  by_cases h4 : k = 4; · exact .inr (.inr (.inr (.inr (.inl h4))))
  by_cases h5 : k = 5; · exact .inr (.inr (.inr (.inr (.inr (.inl h5)))))
  by_cases h6 : k = 6; · exact .inr (.inr (.inr (.inr (.inr (.inr (.inl h6))))))
  by_cases h7 : k = 7; · exact .inr (.inr (.inr (.inr (.inr (.inr (.inr (.inl h7)))))))
  refine .inr (.inr (.inr (.inr (.inr (.inr (.inr (.inr ⟨?_, ?_, ?_, ?_, ?_, ?_, ?_, ?_⟩))))))) <;> rw [beq_eq_false_iff_ne] <;> assumption

set_option maxRecDepth 100000 in
set_option maxHeartbeats 16000000 in
theorem delse_any (h : Hd) (n : Nat) (nb bn bt bi : Bool) (w : World) (hbn : (h.n == 0) = bn) (hbt : (h.t.toList == []) = bt) (hbi : ((n : Int) == 0) = bi) (hN : CallB w 195 #[numA h.fl h.f h.s h.A h.xs.length h.c] (.bool nb)) :
    Calls Tryz.prog 147 #[datA h n] w fun e w' => e = .returned (.bool (elseB h.k bn nb bt bi)) ∧ Below w.heap.size w w' := by
  obtain ⟨W0, hW0, hb0, ho, hs0⟩ := dat_block w h n
  have C := C8.of_block ho
  obtain ⟨x0, x1, x2, x3, x4, x5, x6, x7⟩ := C
  obtain ⟨k, m, fl, f, s, A, xs, c, t, B, cap⟩ := h
  simp only [Nat.zero_add] at x0 x1 x2 x3 x4 x5 x6 x7 hbn hbt hN ⊢
  have HW0 := Lib.hid hW0
  have HB0 := Lib.hid hb0
  have HN := Lib.hid (hN W0 hb0)
  clear hW0 hb0 hN ho
  have HC := Lib.hid fun W (hb : Below W0.heap.size W0 W) => (show C8 W w.heap.size 0 ⟨k, m, fl, f, s, A, xs, c, t, B, cap⟩ n from ⟨(hb.cell (p := ⟨w.heap.size, 0, none⟩) hs0).trans x0, (hb.cell (p := ⟨w.heap.size, 1, none⟩) hs0).trans x1, (hb.cell (p := ⟨w.heap.size, 2, none⟩) hs0).trans x2, (hb.cell (p := ⟨w.heap.size, 3, none⟩) hs0).trans x3, (hb.cell (p := ⟨w.heap.size, 4, none⟩) hs0).trans x4, (hb.cell (p := ⟨w.heap.size, 5, none⟩) hs0).trans x5, (hb.cell (p := ⟨w.heap.size, 6, none⟩) hs0).trans x6, (hb.cell (p := ⟨w.heap.size, 7, none⟩) hs0).trans x7⟩)
  rcases kinds k with rfl | rfl | rfl | rfl | rfl | rfl | rfl | rfl | ⟨k0, k1, k2, k3, k4, k5, k6, k7⟩
  · go_enter Tryz.func147, Tryz.ntmps147
    go_wp2_with (fail)
    all_goals
      try rw [HW0.out]
      go_wp2_with (fail)
      all_goals
        go_ret
        exact ⟨by simp [elseB, *], HB0.out⟩
  rotate_right
  · have HE : Hid (elseB k bn nb bt bi = (bn && nb && bt && bi)) := Lib.hid (by
      rw [beq_eq_false_iff_ne] at k0 k1 k2 k3 k4 k5 k6 k7
      unfold elseB
      rw [decide_eq_false (by omega), decide_eq_false (by omega), decide_eq_false (by omega), decide_eq_false (by omega)]
      simp)
    go_enter Tryz.func147, Tryz.ntmps147
    go_wp2_with (fail)
    all_goals
      try rw [HW0.out]
      go_wp2_with (go_at_call 195; refine HN.out.mono ?_; rintro e w1 ⟨rfl, hb1⟩; have HB1 := Lib.hid (bel_trans (B := w.heap.size) HB0.out hb1); obtain ⟨y0, y1, y2, y3, y4, y5, y6, y7⟩ := HC.out _ hb1; simp only [Nat.zero_add] at y0 y1 y2 y3 y4 y5 y6 y7; clear hb1)
      all_goals
        go_ret
        first | exact ⟨by rw [HE.out]; simp [*], HB1.out⟩ | exact ⟨by rw [HE.out]; simp [*], HB0.out⟩
  all_goals
    go_enter Tryz.func147, Tryz.ntmps147
    go_wp2_with (fail)
    all_goals
      try rw [HW0.out]
      go_wp2_with (go_at_call 195; refine HN.out.mono ?_; rintro e w1 ⟨rfl, hb1⟩; have HB1 := Lib.hid (bel_trans (B := w.heap.size) HB0.out hb1); obtain ⟨y0, y1, y2, y3, y4, y5, y6, y7⟩ := HC.out _ hb1; simp only [Nat.zero_add] at y0 y1 y2 y3 y4 y5 y6 y7; clear hb1)
      all_goals
        go_ret
        first | exact ⟨by simp [elseB, *], HB1.out⟩ | exact ⟨by simp [elseB, *], HB0.out⟩
end LM
end Go.Proofs.YtdhjbhcfkajfdaaGreatDoor

namespace Go.Proofs.YtdhjbhcfkajfdaaGreatDoor
open Go Go.RowKit
namespace LM
set_option linter.unusedVariables false
attribute [local go_sem] run_store_flt

set_option maxRecDepth 100000 in
theorem cnum_any (n : Int) (w : World) : Calls Tryz.prog 161 #[.int .i64 n] w fun e w' => e = .returned (.bool (numB n)) ∧ Below w.heap.size w w' := by
  by_cases h1 : 0 ≤ n
  · have d1 : decide (0 ≤ n) = true := decide_eq_true h1
    have e1 : numB n = decide (n ≤ 16777215) := by unfold numB; rw [d1]; rfl
    have E1 := Lib.hid e1
    clear e1 h1
    go_enter Tryz.func161, Tryz.ntmps161
    go_wp2_with (fail)
    go_ret
    exact ⟨by rw [E1.out]; rfl, Below.refl _ _⟩
  · have d1 : decide (0 ≤ n) = false := decide_eq_false h1
    have e1 : numB n = false := by unfold numB; rw [d1]; rfl
    have E1 := Lib.hid e1
    clear e1 h1
    go_enter Tryz.func161, Tryz.ntmps161
    go_wp2_with (fail)
    go_ret
    exact ⟨by rw [E1.out]; rfl, Below.refl _ _⟩

set_option maxRecDepth 100000 in
theorem cnums_any (xs : List Int) (b off cap : Nat) (w : World) (hF : NumAt w b off xs) (hc1 : xs.length ≤ cap) (hc2 : cap ≤ 9223372036854775807) :
    Calls Tryz.prog 112 #[.slice (some ⟨b, off, none⟩) xs.length cap] w fun e w' => e = .returned (.bool (xs.all numB)) ∧ Below w.heap.size w w' := by
  have H := Lib.hid (cnall_any numB xs (some ⟨b, off, none⟩) cap b off w (fun _ => rfl) hF hc1 hc2 fun x _ W _ => cnum_any x W)
  obtain ⟨r, hr⟩ : ∃ r, xs.all numB = r := ⟨_, rfl⟩
  rw [hr] at H ⊢
  clear hF hr
  go_enter Tryz.func112, Tryz.ntmps112
  go_wp2_with (fail)
  refine H.out.mono ?_
  rintro e w1 ⟨rfl, hb1⟩
  have HB1 := Lib.hid hb1
  clear hb1
  go_wp2_with (fail)
  go_ret
  exact ⟨rfl, HB1.out⟩

/-- numbers that a call has just laid -/
theorem nums_laid (w : World) (xs : List Int) (t : TypeId) : NumAt (w.alloc (.cells (xs.map fun x => Value.int .i64 x).toArray t)) w.heap.size 0 xs := fun j x hx =>
  ⟨by simp, by
    rw [show (⟨w.heap.size, 0 + j, none⟩ : Addr) = ⟨w.heap.size, j, none⟩ by rw [Nat.zero_add], World.cell?_alloc_new]
    simp [hx]⟩

set_option maxRecDepth 100000 in
set_option maxHeartbeats 4000000 in
theorem cinstr_any (x : Ins) (w : World) : Calls Tryz.prog 114 #[insA x] w fun e w' => e = .returned (.bool (insB x)) ∧ Below w.heap.size w w' := by
  obtain ⟨W0, hW0⟩ : ∃ W0, w.alloc (insO x) = W0 := ⟨_, rfl⟩
  have hb0 : Below w.heap.size w W0 := by rw [← hW0]; exact (Below.refl _ w).alloc (Nat.le_refl _) _
  have ho : W0.heap[w.heap.size]? = some (insO x) := by rw [← hW0]; unfold World.alloc; simp
  have hsz : W0.heap.size = w.heap.size + 1 := by rw [← hW0]; simp
  have hn := nums_laid W0 [x.op, x.a, x.b] 3
  have hb1 : Below w.heap.size w (W0.alloc (.cells #[.int .i64 x.op, .int .i64 x.a, .int .i64 x.b] 3)) := hb0.alloc hb0.size _
  have H : Hid (Calls Tryz.prog 112 #[.slice (some ⟨w.heap.size + 1, 0, none⟩) 3 3] (W0.alloc (.cells #[.int .i64 x.op, .int .i64 x.a, .int .i64 x.b] 3)) fun e w' => e = .returned (.bool ([x.op, x.a, x.b].all numB)) ∧ Below (W0.alloc (.cells #[.int .i64 x.op, .int .i64 x.a, .int .i64 x.b] 3)).heap.size (W0.alloc (.cells #[.int .i64 x.op, .int .i64 x.a, .int .i64 x.b] 3)) w') := Lib.hid (by rw [← hsz]; exact cnums_any [x.op, x.a, x.b] W0.heap.size 0 3 _ hn (Nat.le_refl 3) (by decide))
  have HB1 := Lib.hid hb1
  have HW0 := Lib.hid hW0
  obtain ⟨y0, y1, y2⟩ := I3.of_block ho
  have E : Hid (insB x = [x.op, x.a, x.b].all numB) := Lib.hid rfl
  obtain ⟨r, hr⟩ : ∃ r, [x.op, x.a, x.b].all numB = r := ⟨_, rfl⟩
  rw [hr] at H E
  clear hW0 hb0 ho hn hb1 hr hsz
  go_enter Tryz.func114, Tryz.ntmps114
  go_wp2_with (fail)
  rw [HW0.out]
  refine H.out.mono ?_
  rintro e w1 ⟨rfl, hb1⟩
  have HB2 := Lib.hid (bel_trans (B := w.heap.size) HB1.out hb1)
  clear hb1
  go_wp2_with (fail)
  go_ret
  exact ⟨by rw [E.out]; rfl, HB2.out⟩

set_option maxRecDepth 100000 in
theorem cname_any (s : ByteArray) (w : World) : Calls Tryz.prog 68 #[.string s] w fun e w' => e = .returned (.bool (decide (s.size ≤ 100))) ∧ Below w.heap.size w w' := by
  have d1 : decide ((s.size : Int) ≤ 100) = decide (s.size ≤ 100) := decide_eq_decide.2 (by omega)
  go_enter Tryz.func68, Tryz.ntmps68
  go_wp2_with (fail)
  go_ret
  exact ⟨by first | rfl | simp [*], Below.refl _ _⟩

set_option maxRecDepth 100000 in
set_option maxHeartbeats 8000000 in
theorem cproc_any (p : Prh) (w : World) (hv : PrV w p) (hok : p.Ok) : Calls Tryz.prog 66 #[prA p] w fun e w' => e = .returned (.bool (prB p)) ∧ Below w.heap.size w w' := by
  obtain ⟨W0, hW0⟩ : ∃ W0, w.alloc (prO p) = W0 := ⟨_, rfl⟩
  have hb0 : Below w.heap.size w W0 := by rw [← hW0]; exact (Below.refl _ w).alloc (Nat.le_refl _) _
  have ho : W0.heap[w.heap.size]? = some (prO p) := by rw [← hW0]; unfold World.alloc; simp
  have hs0 : w.heap.size < W0.heap.size := by rw [← hW0]; simp
  have N1 := Lib.hid fun W => cname_any p.nm W
  have N2 : Hid (∀ W : World, Calls Tryz.prog 112 #[.slice (some ⟨W.heap.size, 0, none⟩) 4 4] (W.alloc (.cells #[.int .i64 p.pa, .int .i64 p.sl, .int .i64 p.de, .int .i64 p.fr] 3)) fun e w' => e = .returned (.bool ([p.pa, p.sl, p.de, p.fr].all numB)) ∧ Below (W.alloc (.cells #[.int .i64 p.pa, .int .i64 p.sl, .int .i64 p.de, .int .i64 p.fr] 3)).heap.size (W.alloc (.cells #[.int .i64 p.pa, .int .i64 p.sl, .int .i64 p.de, .int .i64 p.fr] 3)) w') := Lib.hid fun W =>
    cnums_any [p.pa, p.sl, p.de, p.fr] W.heap.size 0 4 _ (nums_laid W [p.pa, p.sl, p.de, p.fr] 3) (Nat.le_refl 4) (by decide)
  have N3 : Hid (∀ W, Below w.heap.size w W → Calls Tryz.prog 113 #[.slice p.B p.code.length p.cap, .func (.func 114) #[] #[]] W fun e w' => e = .returned (.bool (p.code.all insB)) ∧ Below W.heap.size W w') := Lib.hid fun W hW => by
    obtain ⟨b, off, hB, hF⟩ := hv.below hW
    exact ciall_any insB p.code p.B p.cap b off W hB hF hok.cap.1 hok.cap.2 fun x _ W2 _ => cinstr_any x W2
  have HB0 := Lib.hid hb0
  have HO := Lib.hid ho
  have HS := Lib.hid hs0
  have HW0 := Lib.hid hW0
  obtain ⟨y0, y1, y2, y3, y4, y5, y6⟩ := P7.of_block ho
  have E : Hid (prB p = (decide (p.nm.size ≤ 100) && ([p.pa, p.sl, p.de, p.fr].all numB && p.code.all insB))) := Lib.hid rfl
  obtain ⟨r1, hr1⟩ : ∃ r, decide (p.nm.size ≤ 100) = r := ⟨_, rfl⟩
  obtain ⟨r2, hr2⟩ : ∃ r, [p.pa, p.sl, p.de, p.fr].all numB = r := ⟨_, rfl⟩
  obtain ⟨r3, hr3⟩ : ∃ r, p.code.all insB = r := ⟨_, rfl⟩
  rw [hr1] at N1 E
  rw [hr2] at N2 E
  rw [hr3] at N3 E
  clear hW0 hb0 ho hs0 hr1 hr2 hr3 hv hok
  go_enter Tryz.func66, Tryz.ntmps66
  go_wp2_with (fail)
  rw [HW0.out]
  refine (N1.out _).mono ?_
  rintro e w1 ⟨rfl, hb1⟩
  have HB1 := Lib.hid (bel_trans (B := w.heap.size) HB0.out hb1)
  have K1 := Lib.hid ((P7.of_block HO.out).keep hb1 HS.out)
  have hs1 : w.heap.size < w1.heap.size := Nat.lt_of_lt_of_le HS.out hb1.size
  have HS1 := Lib.hid hs1
  clear hb1 y0 y1 y2 y3 y4 y5 y6 hs1
  cases r1
  · go_wp2_with (fail)
    go_ret
    exact ⟨by rw [E.out]; rfl, HB1.out⟩
  obtain ⟨y0, y1, y2, y3, y4, y5, y6⟩ := K1.out
  simp only [Nat.zero_add] at y0 y1 y2 y3 y4 y5 y6
  go_wp2_with (fail)
  refine (N2.out _).mono ?_
  rintro e w2 ⟨rfl, hb2⟩
  have hba : Below w1.heap.size w1 w2 := bel_trans (B := w1.heap.size) ((Below.refl _ w1).alloc (Nat.le_refl _) _) hb2
  have HB2 := Lib.hid (bel_trans (B := w.heap.size) HB1.out hba)
  have K2 := Lib.hid (K1.out.keep hba HS1.out)
  clear hb2 hba y0 y1 y2 y3 y4 y5 y6
  cases r2
  · go_wp2_with (fail)
    go_ret
    exact ⟨by rw [E.out]; rfl, HB2.out⟩
  obtain ⟨y0, y1, y2, y3, y4, y5, y6⟩ := K2.out
  simp only [Nat.zero_add] at y0 y1 y2 y3 y4 y5 y6
  go_wp2_with (fail)
  refine (N3.out _ HB2.out).mono ?_
  rintro e w3 ⟨rfl, hb3⟩
  have HB3 := Lib.hid (bel_trans (B := w.heap.size) HB2.out hb3)
  clear hb3
  go_wp2_with (fail)
  go_ret
  exact ⟨by rw [E.out]; rfl, HB3.out⟩

set_option maxRecDepth 100000 in
set_option maxHeartbeats 4000000 in
/-- a constant, when Print answers t and z -/
theorem cconst_by (h : Hd) (n : Nat) (t : ByteArray) (z : Int) (w : World) (hP : ∀ W, Below w.heap.size w W → Calls Tryz.prog 28 #[datA h n] W fun e w' => e = .returned (.tuple #[.string t, .int .i64 z]) ∧ Below W.heap.size W w') :
    Calls Tryz.prog 70 #[datA h n] w fun e w' => e = .returned (.bool ((z == 0) && decide (t.size ≤ 20000))) ∧ Below w.heap.size w w' := by
  obtain ⟨W0, hW0, hb0, ho, hs0⟩ := dat_block w h n
  have H := Lib.hid (hP W0 hb0)
  have d1 : decide ((t.size : Int) ≤ 20000) = decide (t.size ≤ 20000) := decide_eq_decide.2 (by omega)
  have HB0 := Lib.hid hb0
  have HW0 := Lib.hid hW0
  obtain ⟨y0, y1, y2, y3, y4, y5, y6, y7⟩ := C8.of_block ho
  clear hW0 hb0 ho hs0 hP
  obtain ⟨q, hq⟩ : ∃ q, (z == 0) = q := ⟨_, rfl⟩
  rw [hq]
  cases q
  · go_enter Tryz.func70, Tryz.ntmps70
    go_wp2_with (fail)
    rw [HW0.out]
    refine H.out.mono ?_
    rintro e w1 ⟨rfl, hb1⟩
    have HB1 := Lib.hid (bel_trans (B := w.heap.size) HB0.out hb1)
    clear hb1
    go_wp2_with (fail)
    go_ret
    exact ⟨by first | rfl | simp, HB1.out⟩
  · go_enter Tryz.func70, Tryz.ntmps70
    go_wp2_with (fail)
    rw [HW0.out]
    refine H.out.mono ?_
    rintro e w1 ⟨rfl, hb1⟩
    have HB1 := Lib.hid (bel_trans (B := w.heap.size) HB0.out hb1)
    clear hb1
    go_wp2_with (fail)
    go_ret
    exact ⟨by first | rfl | simp [*], HB1.out⟩

end LM
end Go.Proofs.YtdhjbhcfkajfdaaGreatDoor

namespace Go.Proofs.YtdhjbhcfkajfdaaGreatDoor
open Go Go.RowKit
namespace LM
set_option linter.unusedVariables false

end LM
end Go.Proofs.YtdhjbhcfkajfdaaGreatDoor

namespace Go.Proofs.YtdhjbhcfkajfdaaGreatDoor
open Go Go.Shelf Go.RowKit Go.Sort Go.Lib
namespace LM
set_option linter.unusedVariables false

end LM
end Go.Proofs.YtdhjbhcfkajfdaaGreatDoor

namespace Go.Proofs.YtdhjbhcfkajfdaaGreatDoor
open Go Go.Shelf Go.RowKit Go.Sort Go.Lib
namespace LM
set_option linter.unusedVariables false

end LM
end Go.Proofs.YtdhjbhcfkajfdaaGreatDoor

namespace Go.Proofs.YtdhjbhcfkajfdaaGreatDoor
open Go Go.Shelf Go.RowKit Go.Sort Go.Lib
namespace LM
set_option linter.unusedVariables false

end LM
end Go.Proofs.YtdhjbhcfkajfdaaGreatDoor
