/- The law DatumWords walked, of what datumAlive answers by hypothesis (dalive_any gives it). -/
import Derived.Test.YtnpmfailpgbggaaGreatDoorK29
import Derived.Test.YtnpmfailpgbggaaGreatDoorK32
import Derived.Test.YtnpmfailpgbggaaGreatDoorK08
import Derived.Test.YtnpmfailpgbggaaGreatDoorK33
import Derived.Test.YtnpmfailpgbggaaGreatDoorK20
import Derived.Test.YtnpmfailpgbggaaGreatDoorK18
import Derived.Test.YtnpmfailpgbggaaGreatDoorK27
import Derived.Deep.RegionHeld3
import Derived.LoopTactic
import Derived.Deep.LoopGhost
import Derived.Test.YtnpmfailpgbggaaGreatDoorK40
import Derived.Test.YtnpmfailpgbggaaGreatDoorK37
import Derived.Test.YtnpmfailpgbggaaGreatDoorK19
import Derived.Test.YtnpmfailpgbggaaGreatDoorK14
import Derived.Lib.SmallJoins
import Derived.Deep.Strs
import Derived.OpenShut
import Derived.ShutString
import Derived.Handy
import Derived.Test.YtnpmfailpgbggaaGreatDoorK50
import Derived.Test.YtnpmfailpgbggaaGreatDoorK31
namespace Go.Proofs.YtnpmfailpgbggaaGreatDoor
open Go Go.RowKit
namespace LM
set_option linter.unusedVariables false

end LM
end Go.Proofs.YtnpmfailpgbggaaGreatDoor

namespace Go.Proofs.YtnpmfailpgbggaaGreatDoor
open Go Go.RowKit
namespace LM
set_option linter.unusedVariables false

end LM
end Go.Proofs.YtnpmfailpgbggaaGreatDoor

namespace Go.Proofs.YtnpmfailpgbggaaGreatDoor
open Go Go.RowKit
namespace LM
set_option linter.unusedVariables false

end LM
end Go.Proofs.YtnpmfailpgbggaaGreatDoor

namespace Go.Proofs.YtnpmfailpgbggaaGreatDoor
open Go Go.RowKit
namespace LM
set_option linter.unusedVariables false

end LM
end Go.Proofs.YtnpmfailpgbggaaGreatDoor

namespace Go.Proofs.YtnpmfailpgbggaaGreatDoor
open Go Go.RowKit
namespace LM
set_option linter.unusedVariables false

end LM
end Go.Proofs.YtnpmfailpgbggaaGreatDoor

namespace Go.Proofs.YtnpmfailpgbggaaGreatDoor
open Go Go.RowKit
namespace LM
set_option linter.unusedVariables false
attribute [local go_sem] run_store_flt

set_option maxRecDepth 100000 in
set_option maxHeartbeats 1000000 in
theorem ttext_i (f : Nat) (x : Int) (s : Bool) (A : Option Addr) (n c : Nat) (w : World) (hv : IntV w (.agg #[.bool s, .slice A n c]) x) (nx : ¬ BigI x) (htab : Lib.TabIs Tryz.prog w "internal/strconv.uint64pow10" .u64 Lib.pow10Tab) :
    Calls Tryz.prog 40 #[numA false f s A n c] w fun e w' => e = .returned (.string ⟨(decI x).toArray⟩) ∧ Below w.heap.size w w' := by
  have Y0 := Nx.new w false f s A n c
  have hb0 : Below w.heap.size w (w.alloc (numO false f s A n c)) := (Below.refl _ w).alloc (Nat.le_refl _) _
  obtain ⟨y0, y1, y2, y3, -, -, -, -, yl⟩ := Y0.facts
  have HB0 := Lib.hid hb0
  have HT := Lib.hid (etext_int (hv.alloc (numO false f s A n c)) nx (tab_below htab hb0))
  clear hb0 Y0 hv htab
  go_enter Tryz.func40, Tryz.ntmps40
  go_wp2_with (fail)
  refine HT.out.mono ?_
  rintro e w1 ⟨rfl, hb1⟩
  go_wp2_with (fail)
  go_ret
  exact ⟨rfl, bel_trans (B := w.heap.size) HB0.out hb1⟩

theorem two_num (w : World) (fl : Bool) (f : Nat) (s : Bool) (A : Option Addr) (n c : Nat) (fl' : Bool) (f' : Nat) (s' : Bool) (A' : Option Addr) (n' c' : Nat) :
    ∃ W, (w.alloc (numO fl f s A n c)).alloc (numO fl' f' s' A' n' c') = W ∧ Below w.heap.size w W ∧ Obs W [(w.heap.size + 1, numO fl' f' s' A' n' c'), (w.heap.size, numO fl f s A n c)] := by
  refine ⟨_, rfl, ((Below.refl _ w).alloc (Nat.le_refl _) _).alloc (by simp) _, ?_⟩
  have h := (Obs.nil.new (w := w) (numO fl f s A n c)).new (numO fl' f' s' A' n' c')
  simp only [World.size_alloc] at h
  exact h

end LM
end Go.Proofs.YtnpmfailpgbggaaGreatDoor

namespace Go.Proofs.YtnpmfailpgbggaaGreatDoor
open Go Go.RowKit
namespace LM
set_option linter.unusedVariables false
attribute [local go_sem] run_store_flt

end LM
end Go.Proofs.YtnpmfailpgbggaaGreatDoor

namespace Go.Proofs.YtnpmfailpgbggaaGreatDoor
open Go Go.RowKit
namespace LM
set_option linter.unusedVariables false
attribute [local go_sem] run_store_flt

end LM
end Go.Proofs.YtnpmfailpgbggaaGreatDoor

namespace Go.Proofs.YtnpmfailpgbggaaGreatDoor
open Go Go.RowKit
namespace LM
set_option linter.unusedVariables false
attribute [local go_sem] run_store_flt

end LM
end Go.Proofs.YtnpmfailpgbggaaGreatDoor

namespace Go.Proofs.YtnpmfailpgbggaaGreatDoor
open Go Go.RowKit
namespace LM
set_option linter.unusedVariables false
attribute [local go_sem] run_store_flt

/-- what comes of two exact numbers, by what is done -/
def AnsW (op x y z e : Int) : Prop :=
  (op = 0 ∧ ∃ r, QOut x y z r e) ∨ (op = 1 ∧ ∃ q, QOut x y q z e) ∨ (op = 2 ∧ MOut x y z e) ∨ (op = 3 ∧ z = ((Nat.gcd x.natAbs y.natAbs : Nat) : Int) ∧ e = 0) ∨ (op = 4 ∧ z = (powR x y).1 ∧ e = (powR x y).2) ∨
    ((op ≠ 0 ∧ op ≠ 1 ∧ op ≠ 2 ∧ op ≠ 3 ∧ op ≠ 4) ∧ z = 0 ∧ e = 41)
theorem AnsW.same {op x y z e z' e' : Int} (h : AnsW op x y z e) (k : AnsW op x y z' e') : z = z' ∧ e = e' := by
  rcases h with ⟨h0, r, h⟩ | ⟨h0, q, h⟩ | ⟨h0, h⟩ | ⟨h0, h, h1⟩ | ⟨h0, h, h1⟩ | ⟨h0, h, h1⟩ <;> rcases k with ⟨k0, r', k⟩ | ⟨k0, q', k⟩ | ⟨k0, k⟩ | ⟨k0, k, k1⟩ | ⟨k0, k, k1⟩ | ⟨k0, k, k1⟩ <;> first | omega | skip
  · have := h.same k; exact ⟨this.1, this.2.2⟩
  · have := h.same k; exact ⟨this.2.1, this.2.2⟩
  · exact h.same k
end LM
end Go.Proofs.YtnpmfailpgbggaaGreatDoor

namespace Go.Proofs.YtnpmfailpgbggaaGreatDoor
open Go Go.RowKit
namespace LM
set_option linter.unusedVariables false
attribute [local go_sem] run_store_flt

end LM
end Go.Proofs.YtnpmfailpgbggaaGreatDoor

namespace Go.Proofs.YtnpmfailpgbggaaGreatDoor
open Go Go.RowKit
namespace LM
set_option linter.unusedVariables false
attribute [local go_sem] run_store_flt

set_option maxRecDepth 100000 in
set_option maxHeartbeats 1000000 in
theorem tsame_ff (f f' : Nat) (s : Bool) (A : Option Addr) (n c : Nat) (s' : Bool) (A' : Option Addr) (n' c' : Nat) (w : World)
    (b : Bool) (hC : ∀ W, Calls Tryz.prog 93 #[.float .f64 f, .float .f64 f'] W fun e w' => e = .returned (.bool b) ∧ W = w') :
    Calls Tryz.prog 60 #[numA true f s A n c, numA true f' s' A' n' c'] w fun e w' => e = .returned (.bool b) ∧ Below w.heap.size w w' := by
  obtain ⟨W0, hW0, hb0, hO⟩ := two_num w true f s A n c true f' s' A' n' c'
  have HB0 := Lib.hid hb0
  have HW0 := Lib.hid hW0
  have C1 := Lib.hid ((hC W0).mono fun e w' ⟨h1, h2⟩ => (show e = Ending.returned (.bool b) ∧ Below W0.heap.size W0 w' from ⟨h1, h2 ▸ Below.refl _ _⟩))
  clear hb0 hO hW0 hC
  go_enter Tryz.func60, Tryz.ntmps60
  go_wp2_with (fail)
  rw [HW0.out]
  refine C1.out.mono ?_
  rintro e w1 ⟨rfl, hb1⟩
  go_wp2_with (fail)
  go_ret
  exact ⟨rfl, bel_trans (B := w.heap.size) HB0.out hb1⟩
set_option maxRecDepth 100000 in
set_option maxHeartbeats 1000000 in
theorem tsame_ii (f f' : Nat) (s : Bool) (A : Option Addr) (n c : Nat) (s' : Bool) (A' : Option Addr) (n' c' : Nat) (w : World)
    (b : Bool) (hC : ∀ W, Below w.heap.size w W → Calls Tryz.prog 94 #[.agg #[.bool s, .slice A n c], .agg #[.bool s', .slice A' n' c']] W fun e w' => e = .returned (.bool b) ∧ Below W.heap.size W w') :
    Calls Tryz.prog 60 #[numA false f s A n c, numA false f' s' A' n' c'] w fun e w' => e = .returned (.bool b) ∧ Below w.heap.size w w' := by
  obtain ⟨W0, hW0, hb0, hO⟩ := two_num w false f s A n c false f' s' A' n' c'
  have HB0 := Lib.hid hb0
  have HW0 := Lib.hid hW0
  have C1 := Lib.hid (hC W0 hb0)
  clear hb0 hO hW0 hC
  go_enter Tryz.func60, Tryz.ntmps60
  go_wp2_with (fail)
  rw [HW0.out]
  refine C1.out.mono ?_
  rintro e w1 ⟨rfl, hb1⟩
  go_wp2_with (fail)
  go_ret
  exact ⟨rfl, bel_trans (B := w.heap.size) HB0.out hb1⟩
set_option maxRecDepth 100000 in
set_option maxHeartbeats 1000000 in
theorem tsame_if (f f' : Nat) (s : Bool) (A : Option Addr) (n c : Nat) (s' : Bool) (A' : Option Addr) (n' c' : Nat) (w : World) :
    Calls Tryz.prog 60 #[numA false f s A n c, numA true f' s' A' n' c'] w fun e w' => e = .returned (.bool false) ∧ Below w.heap.size w w' := by
  obtain ⟨W0, hW0, hb0, hO⟩ := two_num w false f s A n c true f' s' A' n' c'
  have HB0 := Lib.hid hb0
  have HW0 := Lib.hid hW0
  obtain ⟨p0, p1, p2, p3, -, -, -, -, pl⟩ := hO.nx0.facts
  obtain ⟨q0, q1, q2, q3, -, -, -, -, ql⟩ := hO.tl.nx0.facts
  subst hW0
  clear hb0 hO
  go_enter Tryz.func60, Tryz.ntmps60
  go_wp2_with (fail)
  go_ret
  exact ⟨rfl, HB0.out⟩
set_option maxRecDepth 100000 in
set_option maxHeartbeats 1000000 in
theorem tsame_fi (f f' : Nat) (s : Bool) (A : Option Addr) (n c : Nat) (s' : Bool) (A' : Option Addr) (n' c' : Nat) (w : World) :
    Calls Tryz.prog 60 #[numA true f s A n c, numA false f' s' A' n' c'] w fun e w' => e = .returned (.bool false) ∧ Below w.heap.size w w' := by
  obtain ⟨W0, hW0, hb0, hO⟩ := two_num w true f s A n c false f' s' A' n' c'
  have HB0 := Lib.hid hb0
  have HW0 := Lib.hid hW0
  obtain ⟨p0, p1, p2, p3, -, -, -, -, pl⟩ := hO.nx0.facts
  obtain ⟨q0, q1, q2, q3, -, -, -, -, ql⟩ := hO.tl.nx0.facts
  subst hW0
  clear hb0 hO
  go_enter Tryz.func60, Tryz.ntmps60
  go_wp2_with (fail)
  go_ret
  exact ⟨rfl, HB0.out⟩
set_option maxRecDepth 100000 in
set_option maxHeartbeats 1000000 in
theorem rtsame_ff (f f' : Nat) (s : Bool) (A : Option Addr) (n c : Nat) (s' : Bool) (A' : Option Addr) (n' c' : Nat) (w : World)
    (b : Bool) (hC : ∀ W, Calls Tryz.prog 62 #[.float .f64 f, .float .f64 f'] W fun e w' => e = .returned (.bool b) ∧ W = w') :
    Calls Tryz.prog 33 #[numA true f s A n c, numA true f' s' A' n' c'] w fun e w' => e = .returned (.bool b) ∧ Below w.heap.size w w' := by
  obtain ⟨W0, hW0, hb0, hO⟩ := two_num w true f s A n c true f' s' A' n' c'
  have HB0 := Lib.hid hb0
  have HW0 := Lib.hid hW0
  have C1 := Lib.hid ((hC W0).mono fun e w' ⟨h1, h2⟩ => (show e = Ending.returned (.bool b) ∧ Below W0.heap.size W0 w' from ⟨h1, h2 ▸ Below.refl _ _⟩))
  clear hb0 hO hW0 hC
  go_enter Tryz.func33, Tryz.ntmps33
  go_wp2_with (fail)
  rw [HW0.out]
  refine C1.out.mono ?_
  rintro e w1 ⟨rfl, hb1⟩
  go_wp2_with (fail)
  go_ret
  exact ⟨rfl, bel_trans (B := w.heap.size) HB0.out hb1⟩
set_option maxRecDepth 100000 in
set_option maxHeartbeats 1000000 in
theorem rtsame_ii (f f' : Nat) (s : Bool) (A : Option Addr) (n c : Nat) (s' : Bool) (A' : Option Addr) (n' c' : Nat) (w : World)
    (b : Bool) (hC : ∀ W, Below w.heap.size w W → Calls Tryz.prog 63 #[.agg #[.bool s, .slice A n c], .agg #[.bool s', .slice A' n' c']] W fun e w' => e = .returned (.bool b) ∧ Below W.heap.size W w') :
    Calls Tryz.prog 33 #[numA false f s A n c, numA false f' s' A' n' c'] w fun e w' => e = .returned (.bool b) ∧ Below w.heap.size w w' := by
  obtain ⟨W0, hW0, hb0, hO⟩ := two_num w false f s A n c false f' s' A' n' c'
  have HB0 := Lib.hid hb0
  have HW0 := Lib.hid hW0
  have C1 := Lib.hid (hC W0 hb0)
  clear hb0 hO hW0 hC
  go_enter Tryz.func33, Tryz.ntmps33
  go_wp2_with (fail)
  rw [HW0.out]
  refine C1.out.mono ?_
  rintro e w1 ⟨rfl, hb1⟩
  go_wp2_with (fail)
  go_ret
  exact ⟨rfl, bel_trans (B := w.heap.size) HB0.out hb1⟩
set_option maxRecDepth 100000 in
set_option maxHeartbeats 1000000 in
theorem rtsame_if (f f' : Nat) (s : Bool) (A : Option Addr) (n c : Nat) (s' : Bool) (A' : Option Addr) (n' c' : Nat) (w : World) :
    Calls Tryz.prog 33 #[numA false f s A n c, numA true f' s' A' n' c'] w fun e w' => e = .returned (.bool false) ∧ Below w.heap.size w w' := by
  obtain ⟨W0, hW0, hb0, hO⟩ := two_num w false f s A n c true f' s' A' n' c'
  have HB0 := Lib.hid hb0
  have HW0 := Lib.hid hW0
  obtain ⟨p0, p1, p2, p3, -, -, -, -, pl⟩ := hO.nx0.facts
  obtain ⟨q0, q1, q2, q3, -, -, -, -, ql⟩ := hO.tl.nx0.facts
  subst hW0
  clear hb0 hO
  go_enter Tryz.func33, Tryz.ntmps33
  go_wp2_with (fail)
  go_ret
  exact ⟨rfl, HB0.out⟩
set_option maxRecDepth 100000 in
set_option maxHeartbeats 1000000 in
theorem rtsame_fi (f f' : Nat) (s : Bool) (A : Option Addr) (n c : Nat) (s' : Bool) (A' : Option Addr) (n' c' : Nat) (w : World) :
    Calls Tryz.prog 33 #[numA true f s A n c, numA false f' s' A' n' c'] w fun e w' => e = .returned (.bool false) ∧ Below w.heap.size w w' := by
  obtain ⟨W0, hW0, hb0, hO⟩ := two_num w true f s A n c false f' s' A' n' c'
  have HB0 := Lib.hid hb0
  have HW0 := Lib.hid hW0
  obtain ⟨p0, p1, p2, p3, -, -, -, -, pl⟩ := hO.nx0.facts
  obtain ⟨q0, q1, q2, q3, -, -, -, -, ql⟩ := hO.tl.nx0.facts
  subst hW0
  clear hb0 hO
  go_enter Tryz.func33, Tryz.ntmps33
  go_wp2_with (fail)
  go_ret
  exact ⟨rfl, HB0.out⟩
set_option maxRecDepth 100000 in
set_option maxHeartbeats 1000000 in
theorem rtint_any (z : Int) (h1 : -9223372036854775808 ≤ z) (h2 : z ≤ 9223372036854775807) (w : World) :
    Calls Tryz.prog 36 #[.int .i64 z] w (RetN w z) := by
  have hb0 : Below w.heap.size w (w.alloc (.cells #[.bool false, .float .f64 0, .bool false, .slice none 0 0] 27)) := (Below.refl _ w).alloc (Nat.le_refl _) _
  have Y0 := Lib.hid (Nx.new w false 0 false none 0 0)
  have HB0 := Lib.hid hb0
  have E1 := Lib.hid fun W => rof2c_int z h1 h2 W
  clear hb0
  go_enter Tryz.func36, Tryz.ntmps36
  go_wp2_with (fail)
  refine (E1.out _).mono ?_
  rintro e w1 ⟨s1, A1, n1, c1, rfl, hv1, hb1⟩
  have Y2 := Y0.out.below hb1
  have hbk := bel_trans (B := w.heap.size) HB0.out hb1
  obtain ⟨W, hW, ZR, hbW, hvW, -⟩ := stored_num Y2 hbk (by omega) false 0 s1 A1 n1 c1
  obtain ⟨z0, z1, z2, z3, -, -, -, -, zl⟩ := ZR.facts
  obtain ⟨y0, y1, y2, y3, y4, y5, y6, y7, yl⟩ := Y2.facts
  have HBW := Lib.hid hbW
  have HVW := Lib.hid (hvW _ _ hv1)
  clear hb1 hbk hbW hvW ZR Y2 hv1
  go_wp2_with (fail)
  first | rw [hW] | skip
  refine bodyPost_ret (v := .agg #[.bool false, .float .f64 0, .bool s1, .slice A1 n1 c1]) (by simp [results, Tryz.results36, go_sem, z0, z1, z2, z3]) rfl ?_
  exact ⟨s1, A1, n1, c1, rfl, HVW.out, HBW.out⟩
end LM
end Go.Proofs.YtnpmfailpgbggaaGreatDoor

namespace Go.Proofs.YtnpmfailpgbggaaGreatDoor
open Go Go.RowKit
namespace LM
set_option linter.unusedVariables false
attribute [local go_sem] run_store_flt

/-- can it be? -/
def rightN (fl : Bool) (f : Nat) (s : Bool) (xs : List Nat) : Bool := if fl then (!s && decide (xs.length = 0)) else (decide (f = 0) && rightB s xs)

set_option maxRecDepth 100000 in
set_option maxHeartbeats 2000000 in
theorem rnright_f (f : Nat) (s : Bool) (A : Option Addr) (n c : Nat) (w : World) :
    Calls Tryz.prog 57 #[numA true f s A n c] w fun e w' => e = .returned (.bool (!s && decide (n = 0))) ∧ Below w.heap.size w w' := by
  have Y0 := Nx.new w true f s A n c
  have hb0 : Below w.heap.size w (w.alloc (numO true f s A n c)) := (Below.refl _ w).alloc (Nat.le_refl _) _
  obtain ⟨y0, y1, y2, y3, -, -, -, -, yl⟩ := Y0.facts
  have HB0 := Lib.hid hb0
  have hd : ((n : Int) == 0) = decide (n = 0) := by
    rw [Bool.eq_iff_iff, beq_iff_eq, decide_eq_true_iff]; omega
  clear hb0 Y0
  cases s
  · go_enter Tryz.func57, Tryz.ntmps57
    go_wp2_with (fail)
    go_ret
    exact ⟨rfl, HB0.out⟩
  · go_enter Tryz.func57, Tryz.ntmps57
    go_wp2_with (fail)
    go_ret
    exact ⟨rfl, HB0.out⟩
set_option maxRecDepth 100000 in
set_option maxHeartbeats 2000000 in
theorem rnright_n (f : Nat) (hf : f ≠ 0) (s : Bool) (A : Option Addr) (n c : Nat) (w : World) :
    Calls Tryz.prog 57 #[numA false f s A n c] w fun e w' => e = .returned (.bool false) ∧ Below w.heap.size w w' := by
  have Y0 := Nx.new w false f s A n c
  have hb0 : Below w.heap.size w (w.alloc (numO false f s A n c)) := (Below.refl _ w).alloc (Nat.le_refl _) _
  obtain ⟨y0, y1, y2, y3, -, -, -, -, yl⟩ := Y0.facts
  have HB0 := Lib.hid hb0
  have h1 := run_mbits f
  have hd : ((f : Int) == 0) = false := by
    rw [beq_eq_false_iff_ne]; omega
  clear hb0 Y0 hf
  go_enter Tryz.func57, Tryz.ntmps57
  go_wp2_with (fail)
  go_ret
  exact ⟨rfl, HB0.out⟩
set_option maxRecDepth 100000 in
set_option maxHeartbeats 2000000 in
theorem rnright_z (s : Bool) (A : Option Addr) (c : Nat) (xs : List Nat) (w : World) (ha : Rd w A xs) (hx : Lm xs) (hca : xs.length ≤ c) (hcm : c ≤ 9223372036854775807) (hnil : A = none → xs.length = 0 ∧ c = 0) :
    Calls Tryz.prog 57 #[numA false 0 s A xs.length c] w fun e w' => e = .returned (.bool (rightB s xs)) ∧ Below w.heap.size w w' := by
  have Y0 := Nx.new w false 0 s A xs.length c
  have hb0 : Below w.heap.size w (w.alloc (numO false 0 s A xs.length c)) := (Below.refl _ w).alloc (Nat.le_refl _) _
  obtain ⟨y0, y1, y2, y3, -, -, -, -, yl⟩ := Y0.facts
  have HB0 := Lib.hid hb0
  have h1 := run_mbits 0
  have R1 := Lib.hid (rright_any s A c xs _ (ha.below hb0) hx hca hcm hnil)
  clear hb0 Y0 ha hx hnil
  go_enter Tryz.func57, Tryz.ntmps57
  go_wp2_with (fail)
  refine R1.out.mono ?_
  rintro e w1 ⟨rfl, hb1⟩
  go_wp2_with (fail)
  go_ret
  exact ⟨rfl, bel_trans (B := w.heap.size) HB0.out hb1⟩
theorem rnright_any (fl : Bool) (f : Nat) (s : Bool) (A : Option Addr) (c : Nat) (xs : List Nat) (w : World) (ha : Rd w A xs) (hx : Lm xs) (hca : xs.length ≤ c) (hcm : c ≤ 9223372036854775807) (hnil : A = none → xs.length = 0 ∧ c = 0) :
    Calls Tryz.prog 57 #[numA fl f s A xs.length c] w fun e w' => e = .returned (.bool (rightN fl f s xs)) ∧ Below w.heap.size w w' := by
  unfold rightN
  cases fl
  · by_cases hf : f = 0
    · subst hf
      have h := rnright_z s A c xs w ha hx hca hcm hnil
      simpa using h
    · have h := rnright_n f hf s A xs.length c w
      rw [if_neg (by decide), decide_eq_false hf, Bool.false_and]
      exact h
  · rw [if_pos rfl]
    exact rnright_f f s A xs.length c w

end LM
end Go.Proofs.YtnpmfailpgbggaaGreatDoor

namespace Go.Proofs.YtnpmfailpgbggaaGreatDoor
open Go Go.RowKit Go.ChangeShapes Go.WideShapes Go.ChangeAt
namespace LM
set_option linter.unusedVariables false

theorem AnsW.ex (op x y : Int) : ∃ z e, AnsW op x y z e := by
  by_cases h0 : op = 0
  · by_cases hy : y = 0
    · exact ⟨0, 12, .inl ⟨h0, 0, .inl ⟨hy, rfl, rfl, rfl⟩⟩⟩
    · exact ⟨_, _, .inl ⟨h0, _, .inr ⟨hy, rfl, rfl, rfl⟩⟩⟩
  by_cases h1 : op = 1
  · by_cases hy : y = 0
    · exact ⟨0, 12, .inr (.inl ⟨h1, 0, .inl ⟨hy, rfl, rfl, rfl⟩⟩)⟩
    · exact ⟨_, _, .inr (.inl ⟨h1, _, .inr ⟨hy, rfl, rfl, rfl⟩⟩)⟩
  by_cases h2 : op = 2
  · by_cases hy : y = 0
    · exact ⟨0, 12, .inr (.inr (.inl ⟨h2, .inl ⟨hy, rfl, rfl⟩⟩))⟩
    · exact ⟨_, _, .inr (.inr (.inl ⟨h2, .inr ⟨hy, rfl, rfl⟩⟩))⟩
  by_cases h3 : op = 3
  · exact ⟨_, _, .inr (.inr (.inr (.inl ⟨h3, rfl, rfl⟩)))⟩
  by_cases h4 : op = 4
  · exact ⟨_, _, .inr (.inr (.inr (.inr (.inl ⟨h4, rfl, rfl⟩))))⟩
  exact ⟨_, _, .inr (.inr (.inr (.inr (.inr ⟨⟨h0, h1, h2, h3, h4⟩, rfl, rfl⟩))))⟩

/-! a number that came in -/
theorem trod_flt {H : Type} {enc : TypeId × Value → H} {P : Program} {w : World} {base : Nat} {spare : Nat → Bool} {held : Bool} {fuel : Nat} {t : TypeId} {cs : List Value} {x : DataW H × List MemPlace} (ht : P.underlying t = some (.float .f64)) (h : DataW.trod enc P w base spare held fuel t cs = some x) : ∃ n, cs = [.float .f64 n] ∧ n < 18446744073709551616 := by
  cases fuel with
  | zero => simp [DataW.trod] at h
  | succ n =>
    unfold DataW.trod at h
    rw [ht] at h
    split at h <;> simp_all
    rename_i hk
    subst hk
    have h3 := h.1.2
    unfold Lit.wf at h3
    simpa using h3

end LM
end Go.Proofs.YtnpmfailpgbggaaGreatDoor

namespace Go.Proofs.YtnpmfailpgbggaaGreatDoor
open Go Go.RowKit
namespace LM
set_option linter.unusedVariables false
attribute [local go_sem] run_store_flt

/-- a number that can be, as it is read -/
def NumOk (w : World) (fl : Bool) (f : Nat) (s : Bool) (A : Option Addr) (n c : Nat) : Prop := f < 18446744073709551616 ∧ (fl = true ∨ (fl = false ∧ ∃ x, IntV w (.agg #[.bool s, .slice A n c]) x ∧ ¬ BigI x))
theorem numOk_of {fl : Bool} {f : Nat} {s : Bool} {A : Option Addr} {c : Nat} {xs : List Nat} {w : World} (hr : rightN fl f s xs = true) (hf : f < 18446744073709551616) (ha : Rd w A xs) (hx : Lm xs) (hca : xs.length ≤ c) (hcm : c ≤ 9223372036854775807) : NumOk w fl f s A xs.length c := by
  refine ⟨hf, ?_⟩
  cases fl
  · right
    unfold rightN at hr
    rw [if_neg (by decide), Bool.and_eq_true] at hr
    exact ⟨rfl, _, (intV_of hr.2 ha hx hca hcm).1, (intV_of hr.2 ha hx hca hcm).2⟩
  · exact .inl rfl
theorem NumOk.keep {w w' : World} {fl : Bool} {f : Nat} {s : Bool} {A : Option Addr} {n c : Nat} (h : NumOk w fl f s A n c) (hb : Below w.heap.size w w') : NumOk w' fl f s A n c := by
  obtain ⟨h1, h2 | ⟨h2, x, h3, h4⟩⟩ := h
  · exact ⟨h1, .inl h2⟩
  · exact ⟨h1, .inr ⟨h2, x, h3.keep hb, h4⟩⟩

abbrev CallB (w : World) (f : FuncId) (args : Array Value) (r : Value) : Prop := ∀ W, Below w.heap.size w W → Calls Tryz.prog f args W fun e w' => e = .returned r ∧ Below W.heap.size W w'

end LM
end Go.Proofs.YtnpmfailpgbggaaGreatDoor

namespace Go.Proofs.YtnpmfailpgbggaaGreatDoor
open Go Go.RowKit
namespace LM
set_option linter.unusedVariables false
attribute [local go_sem] run_store_flt

set_option maxRecDepth 100000 in
set_option maxHeartbeats 2000000 in
theorem tright_f (f : Nat) (s : Bool) (A : Option Addr) (n c : Nat) (w : World) :
    Calls Tryz.prog 49 #[numA true f s A n c] w fun e w' => e = .returned (.bool (!s && decide (n = 0))) ∧ Below w.heap.size w w' := by
  have Y0 := Nx.new w true f s A n c
  have hb0 : Below w.heap.size w (w.alloc (numO true f s A n c)) := (Below.refl _ w).alloc (Nat.le_refl _) _
  obtain ⟨y0, y1, y2, y3, -, -, -, -, yl⟩ := Y0.facts
  have HB0 := Lib.hid hb0
  have N1 := Lib.hid (tnothing_any s A n c (w.alloc (numO true f s A n c)))
  clear hb0 Y0
  cases s
  · go_enter Tryz.func49, Tryz.ntmps49
    go_wp2_with (fail)
    refine N1.out.mono ?_
    rintro e w1 ⟨rfl, hb1⟩
    go_wp2_with (fail)
    go_ret
    exact ⟨by simp, bel_trans (B := w.heap.size) HB0.out hb1⟩
  · go_enter Tryz.func49, Tryz.ntmps49
    go_wp2_with (fail)
    go_ret
    exact ⟨by simp, HB0.out⟩

set_option maxRecDepth 100000 in
set_option maxHeartbeats 2000000 in
theorem tright_i (f : Nat) (hf : f < 18446744073709551616) (s : Bool) (A : Option Addr) (n c : Nat) (rb : Bool) (w : World) (hR : CallB w 81 #[.agg #[.bool s, .slice A n c]] (.bool rb)) :
    Calls Tryz.prog 49 #[numA false f s A n c] w fun e w' => e = .returned (.bool (decide (f = 0) && rb)) ∧ Below w.heap.size w w' := by
  have Y0 := Nx.new w false f s A n c
  have hb0 : Below w.heap.size w (w.alloc (numO false f s A n c)) := (Below.refl _ w).alloc (Nat.le_refl _) _
  obtain ⟨y0, y1, y2, y3, -, -, -, -, yl⟩ := Y0.facts
  have HB0 := Lib.hid hb0
  have HR := Lib.hid (hR _ hb0)
  have B1 := Lib.hid fun W => bits_any f W hf
  have hz : ((canW f : Nat) : Int) = 0 ↔ f = 0 := by
    unfold canW
    split
    · rename_i h; unfold nanW at h; omega
    · omega
  obtain ⟨g, hg⟩ : ∃ g, canW f = g := ⟨_, rfl⟩
  rw [hg] at hz B1
  clear hb0 Y0 hR hg
  by_cases h0 : f = 0
  · obtain rfl : g = 0 := by omega
    have h2 : decide (f = 0) = true := decide_eq_true h0
    rw [h2]
    clear h2 h0 hz
    go_enter Tryz.func49, Tryz.ntmps49
    go_wp2_with (fail)
    refine (B1.out _).mono ?_
    rintro e w1 ⟨rfl, rfl⟩
    go_wp2_with (fail)
    refine HR.out.mono ?_
    rintro e w1 ⟨rfl, hb1⟩
    go_wp2_with (fail)
    go_ret
    exact ⟨by simp, bel_trans (B := w.heap.size) HB0.out hb1⟩
  · have h1 : ((g : Int) == 0) = false := by rw [beq_eq_false_iff_ne]; omega
    have h2 : decide (f = 0) = false := decide_eq_false h0
    rw [h2]
    clear h2 h0 hz
    go_enter Tryz.func49, Tryz.ntmps49
    go_wp2_with (fail)
    refine (B1.out _).mono ?_
    rintro e w1 ⟨rfl, rfl⟩
    go_wp2_with (fail)
    go_ret
    exact ⟨by simp, HB0.out⟩

theorem tright_any (fl : Bool) (f : Nat) (hf : f < 18446744073709551616) (s : Bool) (A : Option Addr) (c : Nat) (xs : List Nat) (w : World) (ha : Rd w A xs) (hx : Lm xs) (hl : xs.length ≤ 1000) :
    Calls Tryz.prog 49 #[numA fl f s A xs.length c] w fun e w' => e = .returned (.bool (rightN fl f s xs)) ∧ Below w.heap.size w w' := by
  unfold rightN
  cases fl
  · rw [if_neg (by decide)]
    exact tright_i f hf s A xs.length c _ w fun W hW => eright_any s A c xs W (ha.below hW) hx hl
  · rw [if_pos rfl]
    exact tright_f f s A xs.length c w

/-- is a number the zero value -/
def nothB (fl : Bool) (f : Nat) (s : Bool) (xs : List Nat) : Bool := !fl && decide (xs.length = 0) && rightN fl f s xs
set_option maxRecDepth 100000 in
set_option maxHeartbeats 2000000 in
theorem dnothing_any (fl : Bool) (f : Nat) (s : Bool) (A : Option Addr) (n c : Nat) (rb : Bool) (w : World) (hR : CallB w 49 #[numA fl f s A n c] (.bool rb)) :
    Calls Tryz.prog 78 #[numA fl f s A n c] w fun e w' => e = .returned (.bool (!fl && decide (n = 0) && rb)) ∧ Below w.heap.size w w' := by
  have Y0 := Nx.new w fl f s A n c
  have hb0 : Below w.heap.size w (w.alloc (numO fl f s A n c)) := (Below.refl _ w).alloc (Nat.le_refl _) _
  obtain ⟨y0, y1, y2, y3, -, -, -, -, yl⟩ := Y0.facts
  have HB0 := Lib.hid hb0
  have HR := Lib.hid (hR _ hb0)
  clear hb0 Y0 hR
  cases fl
  · by_cases hn : n = 0
    · subst hn
      go_enter Tryz.func78, Tryz.ntmps78
      go_wp2_with (fail)
      refine HR.out.mono ?_
      rintro e w1 ⟨rfl, hb1⟩
      go_wp2_with (fail)
      go_ret
      exact ⟨by simp, bel_trans (B := w.heap.size) HB0.out hb1⟩
    · have h1 : ((n : Int) == 0) = false := by rw [beq_eq_false_iff_ne]; omega
      have h2 : decide (n = 0) = false := decide_eq_false hn
      rw [h2]
      clear h2 hn
      go_enter Tryz.func78, Tryz.ntmps78
      go_wp2_with (fail)
      go_ret
      exact ⟨by simp, HB0.out⟩
  · go_enter Tryz.func78, Tryz.ntmps78
    go_wp2_with (fail)
    go_ret
    exact ⟨by simp, HB0.out⟩

end LM
end Go.Proofs.YtnpmfailpgbggaaGreatDoor

namespace Go.Proofs.YtnpmfailpgbggaaGreatDoor
open Go Go.RowKit
namespace LM
set_option linter.unusedVariables false
attribute [local go_sem] run_store_flt

/-- has a datum nothing but what its kind has: by its kind; is N 0, is the number nothing, is the text empty, are there no Items -/
def elseB (k : Int) (bn nb bt bi : Bool) : Bool :=
  (decide (k = 1 ∨ k = 2) || bn) && (decide (k = 0) || nb) && (decide (k = 3 ∨ k = 4) || bt) && (decide (5 ≤ k ∧ k ≤ 7) || bi)

theorem dat_block (w : World) (h : Hd) (n : Nat) : ∃ W0, w.alloc (datO h n) = W0 ∧ Below w.heap.size w W0 ∧ W0.heap[w.heap.size]? = some (datO h n) ∧ w.heap.size < W0.heap.size :=
  ⟨_, rfl, (Below.refl _ w).alloc (Nat.le_refl _) _, by unfold World.alloc; simp, by simp⟩
theorem kinds (k : Int) : k = 0 ∨ k = 1 ∨ k = 2 ∨ k = 3 ∨ k = 4 ∨ k = 5 ∨ k = 6 ∨ k = 7 ∨ ((k == 0) = false ∧ (k == 1) = false ∧ (k == 2) = false ∧ (k == 3) = false ∧ (k == 4) = false ∧ (k == 5) = false ∧ (k == 6) = false ∧ (k == 7) = false) := by
  by_cases h0 : k = 0; · exact .inl h0
  by_cases h1 : k = 1; · exact .inr (.inl h1)
  by_cases h2 : k = 2; · exact .inr (.inr (.inl h2))
  by_cases h3 : k = 3; · exact .inr (.inr (.inr (.inl h3)))
  by_cases h4 : k = 4; · exact .inr (.inr (.inr (.inr (.inl h4))))
  by_cases h5 : k = 5; · exact .inr (.inr (.inr (.inr (.inr (.inl h5)))))
  by_cases h6 : k = 6; · exact .inr (.inr (.inr (.inr (.inr (.inr (.inl h6))))))
  by_cases h7 : k = 7; · exact .inr (.inr (.inr (.inr (.inr (.inr (.inr (.inl h7)))))))
  refine .inr (.inr (.inr (.inr (.inr (.inr (.inr (.inr ⟨?_, ?_, ?_, ?_, ?_, ?_, ?_, ?_⟩))))))) <;> rw [beq_eq_false_iff_ne] <;> assumption

set_option maxRecDepth 100000 in
set_option maxHeartbeats 16000000 in
theorem delse_any (h : Hd) (n : Nat) (nb bn bt bi : Bool) (w : World) (hbn : (h.n == 0) = bn) (hbt : (h.t.toList == []) = bt) (hbi : ((n : Int) == 0) = bi) (hN : CallB w 78 #[numA h.fl h.f h.s h.A h.xs.length h.c] (.bool nb)) :
    Calls Tryz.prog 48 #[datA h n] w fun e w' => e = .returned (.bool (elseB h.k bn nb bt bi)) ∧ Below w.heap.size w w' := by
  obtain ⟨W0, hW0, hb0, ho, hs0⟩ := dat_block w h n
  have C := C8.of_block ho
  obtain ⟨x0, x1, x2, x3, x4, x5, x6, x7⟩ := C
  obtain ⟨k, m, fl, f, s, A, xs, c, t, B, cap⟩ := h
  simp only [Nat.zero_add] at x0 x1 x2 x3 x4 x5 x6 x7 hbn hbt hN ⊢
  have HW0 := Lib.hid hW0
  have HB0 := Lib.hid hb0
  have HN := Lib.hid (hN W0 hb0)
  clear hW0 hb0 hN ho
  have HC := Lib.hid fun W (hb : Below W0.heap.size W0 W) => (show C8 W w.heap.size 0 ⟨k, m, fl, f, s, A, xs, c, t, B, cap⟩ n from ⟨(hb.cell (p := ⟨w.heap.size, 0, none⟩) hs0).trans x0, (hb.cell (p := ⟨w.heap.size, 1, none⟩) hs0).trans x1, (hb.cell (p := ⟨w.heap.size, 2, none⟩) hs0).trans x2, (hb.cell (p := ⟨w.heap.size, 3, none⟩) hs0).trans x3, (hb.cell (p := ⟨w.heap.size, 4, none⟩) hs0).trans x4, (hb.cell (p := ⟨w.heap.size, 5, none⟩) hs0).trans x5, (hb.cell (p := ⟨w.heap.size, 6, none⟩) hs0).trans x6, (hb.cell (p := ⟨w.heap.size, 7, none⟩) hs0).trans x7⟩)
  rcases kinds k with rfl | rfl | rfl | rfl | rfl | rfl | rfl | rfl | ⟨k0, k1, k2, k3, k4, k5, k6, k7⟩
  · go_enter Tryz.func48, Tryz.ntmps48
    go_wp2_with (fail)
    all_goals
      try rw [HW0.out]
      go_wp2_with (fail)
      all_goals
        go_ret
        exact ⟨by simp [elseB, *], HB0.out⟩
  rotate_right
  · have HE : Hid (elseB k bn nb bt bi = (bn && nb && bt && bi)) := Lib.hid (by
      rw [beq_eq_false_iff_ne] at k0 k1 k2 k3 k4 k5 k6 k7
      unfold elseB
      rw [decide_eq_false (by omega), decide_eq_false (by omega), decide_eq_false (by omega), decide_eq_false (by omega)]
      simp)
    go_enter Tryz.func48, Tryz.ntmps48
    go_wp2_with (fail)
    all_goals
      try rw [HW0.out]
      go_wp2_with (go_at_call 78; refine HN.out.mono ?_; rintro e w1 ⟨rfl, hb1⟩; have HB1 := Lib.hid (bel_trans (B := w.heap.size) HB0.out hb1); obtain ⟨y0, y1, y2, y3, y4, y5, y6, y7⟩ := HC.out _ hb1; simp only [Nat.zero_add] at y0 y1 y2 y3 y4 y5 y6 y7; clear hb1)
      all_goals
        go_ret
        first | exact ⟨by rw [HE.out]; simp [*], HB1.out⟩ | exact ⟨by rw [HE.out]; simp [*], HB0.out⟩
  all_goals
    go_enter Tryz.func48, Tryz.ntmps48
    go_wp2_with (fail)
    all_goals
      try rw [HW0.out]
      go_wp2_with (go_at_call 78; refine HN.out.mono ?_; rintro e w1 ⟨rfl, hb1⟩; have HB1 := Lib.hid (bel_trans (B := w.heap.size) HB0.out hb1); obtain ⟨y0, y1, y2, y3, y4, y5, y6, y7⟩ := HC.out _ hb1; simp only [Nat.zero_add] at y0 y1 y2 y3 y4 y5 y6 y7; clear hb1)
      all_goals
        go_ret
        first | exact ⟨by simp [elseB, *], HB1.out⟩ | exact ⟨by simp [elseB, *], HB0.out⟩
end LM
end Go.Proofs.YtnpmfailpgbggaaGreatDoor

namespace Go.Proofs.YtnpmfailpgbggaaGreatDoor
open Go Go.Shelf Go.RowKit Go.Sort Go.Lib
namespace LM
set_option linter.unusedVariables false
attribute [local go_sem] run_store_flt

def TOutR (l : List UInt8) (ff : Nat) (w : World) (fl : Bool) (f : Nat) (s : Bool) (A : Option Addr) (n c : Nat) (er : Int) : Prop :=
  (OkText (signOf l).2 ∧ fl = false ∧ f = 0 ∧ ∃ z, POut l z er ∧ IntR w (.agg #[.bool s, .slice A n c]) z) ∨
  (¬ OkText (signOf l).2 ∧ (parV l ff).2 ≠ 0 ∧ fl = false ∧ f = 0 ∧ s = false ∧ A = none ∧ n = 0 ∧ c = 0 ∧ er = 13) ∨
  (¬ OkText (signOf l).2 ∧ (parV l ff).2 = 0 ∧ fl = true ∧ f = (parV l ff).1 ∧ s = false ∧ A = none ∧ n = 0 ∧ c = 0 ∧ er = 0)
def RetTR (w : World) (l : List UInt8) (ff : Nat) (e : Ending) (w' : World) : Prop :=
  ∃ fl f s A n c er, e = .returned (.tuple #[.agg #[.bool fl, .float .f64 f, .bool s, .slice A n c], .int .i64 er]) ∧ TOutR l ff w' fl f s A n c er ∧ Below w.heap.size w w'

set_option maxRecDepth 100000 in
set_option maxHeartbeats 2000000 in
theorem rtpflo_any (f : Nat) (w : World) :
    Calls Tryz.prog 149 #[.float .f64 f] w fun e w' => e = .returned (.agg #[.bool true, .float .f64 f, .bool false, .slice none 0 0]) ∧ Below w.heap.size w w' := by
  go_enter Tryz.func149, Tryz.ntmps149
  go_wp2_with (fail)
  refine bodyPost_ret (v := .agg #[.bool true, .float .f64 f, .bool false, .slice none 0 0]) (by simp [results, Tryz.results149, go_sem]) rfl ?_
  exact ⟨rfl, (Below.refl _ w).alloc (Nat.le_refl _) _⟩
set_option maxRecDepth 100000 in
set_option maxHeartbeats 4000000 in
theorem rtpout_ok (s : Bool) (A : Option Addr) (n c : Nat) (w : World) :
    Calls Tryz.prog 147 #[.agg #[.bool s, .slice A n c], .int .i64 0] w fun e w' => e = .returned (.tuple #[.agg #[.bool false, .float .f64 0, .bool s, .slice A n c], .int .i64 0]) ∧ Below w.heap.size w w' := by
  go_enter Tryz.func147, Tryz.ntmps147
  go_wp2_with (fail)
  refine bodyPost_ret (v := .tuple #[.agg #[.bool false, .float .f64 0, .bool s, .slice A n c], .int .i64 0]) (by simp [results, Tryz.results147, go_sem]) rfl ?_
  exact ⟨rfl, ((Below.refl _ w).alloc (Nat.le_refl _) _).alloc (by simp) _⟩
set_option maxRecDepth 100000 in
set_option maxHeartbeats 4000000 in
theorem rtpout_bad (s : Bool) (A : Option Addr) (n c : Nat) (w : World) :
    Calls Tryz.prog 147 #[.agg #[.bool s, .slice A n c], .int .i64 11] w fun e w' => e = .returned (.tuple #[.agg #[.bool false, .float .f64 0, .bool false, .slice none 0 0], .int .i64 11]) ∧ Below w.heap.size w w' := by
  go_enter Tryz.func147, Tryz.ntmps147
  go_wp2_with (fail)
  refine bodyPost_ret (v := .tuple #[.agg #[.bool false, .float .f64 0, .bool false, .slice none 0 0], .int .i64 11]) (by simp [results, Tryz.results147, go_sem]) rfl ?_
  exact ⟨rfl, ((Below.refl _ w).alloc (Nat.le_refl _) _).alloc (by simp) _⟩

set_option maxRecDepth 100000 in
set_option maxHeartbeats 4000000 in
theorem rtparse_any (s : ByteArray) (ff : Nat) (hs : s.size ≤ 1000) (hf : ReadsF s ff) (w : World) (hv : FV w) (hx : FX w) (hr : RngCell w) :
    Calls Tryz.prog 120 #[.string s] w (RetTR w s.data.toList ff) := by
  have EP := Lib.hid fun W (hW : Below w.heap.size w W) => rparse2_any s W (by omega)
  have FP := Lib.hid fun W (hW : Below w.heap.size w W) => rfparse_any s ff hs hf W (hv.below hW) (hx.below hW) (hr.below hW)
  have TW := Lib.hid rtpout_ok
  have TF := Lib.hid rtpflo_any
  have TE := Lib.hid rtpout_bad
  have hb0 : Below w.heap.size w (w.alloc (.cells #[.bool false, .float .f64 0, .bool false, .slice none 0 0] 27)) := (Below.refl _ w).alloc (Nat.le_refl _) _
  have Y0 := Nx.new w false 0 false none 0 0
  have HB0 := Lib.hid hb0
  have HY0 := Lib.hid Y0
  have PE := Lib.hid (parV_err s.data.toList ff)
  obtain ⟨l, hl⟩ : ∃ l, s.data.toList = l := ⟨_, rfl⟩
  rw [hl] at EP FP PE ⊢
  clear hv hx hr hf hb0 Y0 hl
  go_enter Tryz.func120, Tryz.ntmps120
  go_wp2_with (fail)
  refine (EP.out _ HB0.out).mono ?_
  rintro e w1 ⟨s1, A1, n1, c1, er, z, rfl, hiv, hpo, hb1⟩
  have HY1 := Lib.hid (HY0.out.below hb1)
  have HB1 := Lib.hid (bel_trans (B := w.heap.size) HB0.out hb1)
  have hba : Below w1.heap.size w1 (w1.alloc (.cells #[.bool s1, .slice A1 n1 c1] 25)) := (Below.refl _ w1).alloc (Nat.le_refl _) _
  have X1 := Bx.new w1 s1 A1 n1 c1
  obtain ⟨q0, q1, -, -, ql⟩ := X1.facts
  have HBA := Lib.hid hba
  have HVA := Lib.hid (hiv.keep hba)
  have HPO := Lib.hid hpo
  clear hb1 hiv hba X1
  rcases hpo with ⟨hno, rfl, rfl⟩ | ⟨hok, hbig, rfl, rfl⟩ | ⟨hok, hbig, hz, rfl⟩
  · go_wp2_with (fail)
    refine (FP.out _ (bel_trans (B := w.heap.size) HB1.out HBA.out)).mono ?_
    rintro e w2 ⟨rfl, hb2⟩
    have HB2 := Lib.hid (bel_trans (B := w.heap.size) (bel_trans (B := w.heap.size) HB1.out HBA.out) hb2)
    have HY2 := Lib.hid ((HY1.out.below HBA.out).below hb2)
    clear hb2
    rcases PE.out with h0 | h31
    · obtain ⟨p, hp⟩ : ∃ p, parV l ff = p := ⟨_, rfl⟩
      obtain ⟨pv, pe⟩ := p
      rw [hp] at h0 ⊢
      have h0 : pe = 0 := h0
      subst h0
      have HP := Lib.hid hp
      clear hp PE
      go_wp2_with (fail)
      refine (TF.out _ _).mono ?_
      rintro e w3 ⟨rfl, hb3⟩
      have HB3 := bel_trans (B := w.heap.size) HB2.out hb3
      have HY3 := HY2.out.below hb3
      obtain ⟨y0, y1, y2, y3, y4, y5, y6, y7, yl⟩ := HY3.facts
      obtain ⟨W, hW, ZR, hbW, -, -⟩ := stored_num HY3 HB3 (Nat.le_refl _) true pv false none 0 0
      obtain ⟨z0, z1, z2, z3, -, -, -, -, zl⟩ := ZR.facts
      have HW := Lib.hid hW
      have HBW := Lib.hid hbW
      clear hb3 HB3 HY3 hW hbW ZR
      go_wp2_with (fail)
      rw [HW.out]
      refine bodyPost_ret (v := .tuple #[.agg #[.bool true, .float .f64 pv, .bool false, .slice none 0 0], .int .i64 0]) (by simp [results, Tryz.results120, go_sem, z0, z1, z2, z3]) rfl ?_
      exact ⟨_, _, _, _, _, _, _, rfl, .inr (.inr ⟨hno, by rw [HP.out], rfl, by rw [HP.out], rfl, rfl, rfl, rfl, rfl⟩), HBW.out⟩
    · have HP := Lib.hid h31
      rw [h31]
      clear h31 PE
      obtain ⟨y0, y1, y2, y3, y4, y5, y6, y7, yl⟩ := HY2.out.facts
      obtain ⟨W, hW, ZR, hbW, -, -⟩ := stored_num HY2.out HB2.out (Nat.le_refl _) false 0 false none 0 0
      obtain ⟨z0, z1, z2, z3, -, -, -, -, zl⟩ := ZR.facts
      have HW := Lib.hid hW
      have HBW := Lib.hid hbW
      clear hW hbW ZR
      go_wp2_with (fail)
      rw [HW.out]
      refine bodyPost_ret (v := .tuple #[.agg #[.bool false, .float .f64 0, .bool false, .slice none 0 0], .int .i64 13]) (by simp [results, Tryz.results120, go_sem, z0, z1, z2, z3]) rfl ?_
      exact ⟨_, _, _, _, _, _, _, rfl, .inr (.inl ⟨hno, by rw [HP.out]; decide, rfl, rfl, rfl, rfl, rfl, rfl, rfl⟩), HBW.out⟩
  · go_wp2_with (fail)
    refine (TE.out _ _ _ _ _).mono ?_
    rintro e w2 ⟨rfl, hb2⟩
    have hB2 := bel_trans (B := w.heap.size) (bel_trans (B := w.heap.size) HB1.out HBA.out) hb2
    have hY2 := (HY1.out.below HBA.out).below hb2
    obtain ⟨y0, y1, y2, y3, y4, y5, y6, y7, yl⟩ := hY2.facts
    obtain ⟨W, hW, ZR, hbW, -, hvW⟩ := stored_num hY2 hB2 (Nat.le_refl _) false 0 false none 0 0
    obtain ⟨z0, z1, z2, z3, -, -, -, -, zl⟩ := ZR.facts
    have HW := Lib.hid hW
    have HBW := Lib.hid hbW
    have HVW := Lib.hid (hvW _ _ (HVA.out.keep hb2))
    clear hb2 hB2 hY2 hW hbW hvW ZR
    go_wp2_with (fail)
    rw [HW.out]
    refine bodyPost_ret (v := .tuple #[.agg #[.bool false, .float .f64 0, .bool false, .slice none 0 0], .int .i64 11]) (by simp [results, Tryz.results120, go_sem, z0, z1, z2, z3]) rfl ?_
    exact ⟨_, _, _, _, _, _, _, rfl, .inl ⟨hok, rfl, rfl, _, HPO.out, intR_nil _⟩, HBW.out⟩
  · go_wp2_with (fail)
    refine (TW.out _ _ _ _ _).mono ?_
    rintro e w2 ⟨rfl, hb2⟩
    have hB2 := bel_trans (B := w.heap.size) (bel_trans (B := w.heap.size) HB1.out HBA.out) hb2
    have hY2 := (HY1.out.below HBA.out).below hb2
    obtain ⟨y0, y1, y2, y3, y4, y5, y6, y7, yl⟩ := hY2.facts
    obtain ⟨W, hW, ZR, hbW, -, hvW⟩ := stored_num hY2 hB2 (Nat.le_refl _) false 0 s1 A1 n1 c1
    obtain ⟨z0, z1, z2, z3, -, -, -, -, zl⟩ := ZR.facts
    have HW := Lib.hid hW
    have HBW := Lib.hid hbW
    have HVW := Lib.hid (hvW _ _ (HVA.out.keep hb2))
    clear hb2 hB2 hY2 hW hbW hvW ZR
    go_wp2_with (fail)
    rw [HW.out]
    refine bodyPost_ret (v := .tuple #[.agg #[.bool false, .float .f64 0, .bool s1, .slice A1 n1 c1], .int .i64 0]) (by simp [results, Tryz.results120, go_sem, z0, z1, z2, z3]) rfl ?_
    exact ⟨_, _, _, _, _, _, _, rfl, .inl ⟨hok, rfl, rfl, _, HPO.out, HVW.out⟩, HBW.out⟩

end LM
end Go.Proofs.YtnpmfailpgbggaaGreatDoor

namespace Go.Proofs.YtnpmfailpgbggaaGreatDoor
open Go Go.Shelf Go.RowKit Go.Sort Go.Lib
namespace LM
set_option linter.unusedVariables false
attribute [local go_sem] run_store_flt

def allP : List UInt8 → Bool
  | [] => true
  | c :: l => plainB c.toNat && allP l
/-- is a text a name, where q tells that it is no number's -/
def nameV (l : List UInt8) (q : Bool) : Bool := decide (1 ≤ l.length) && (decide (l.length ≤ 40) && (decide (l ≠ [46]) && (allP l && q)))
/-- a text is no number's, where the library reads ff -/
def NoNum (l : List UInt8) (ff : Nat) : Prop := ¬ OkText (signOf l).2 ∧ (parV l ff).2 ≠ 0
set_option maxRecDepth 100000 in
theorem plain_ascii : ∀ b : Fin 256, plainB b.val = true → b.val < 128 := by decide
theorem allP_ascii : ∀ (l : List UInt8), allP l = true → ∀ (j : Nat) b, l[j]? = some b → b.toNat < 128
  | [], _, j, b, h => by simp at h
  | c :: l, hp, j, b, h => by
    unfold allP at hp
    rw [Bool.and_eq_true] at hp
    cases j with
    | zero =>
      simp at h
      subst h
      exact plain_ascii ⟨c.toNat, c.toNat_lt⟩ hp.1
    | succ j =>
      rw [List.getElem?_cons_succ] at h
      exact allP_ascii l hp.2 j b h
theorem pout_er {l : List UInt8} {z er : Int} (h : POut l z er) (hk : OkText (signOf l).2) : er = 11 ∨ er = 0 := by
  rcases h with ⟨h1, _⟩ | ⟨_, _, _, h4⟩ | ⟨_, _, _, h4⟩
  · exact absurd hk h1
  · exact .inl h4
  · exact .inr h4
theorem tout_er {l : List UInt8} {ff : Nat} {w : World} {fl : Bool} {f : Nat} {s : Bool} {A : Option Addr} {n c : Nat} {er : Int} {q : Bool} (hq : q = true ↔ NoNum l ff) (h : TOut l ff w fl f s A n c er) : (er == 13) = q := by
  rcases h with ⟨h1, _, _, z, h4, _⟩ | ⟨h1, h2, _, _, _, _, _, _, h3⟩ | ⟨h1, h2, _, _, _, _, _, _, h3⟩
  · have hf : q = false := by rw [Bool.eq_false_iff]; exact fun h => (hq.1 h).1 h1
    rcases pout_er h4 h1 with rfl | rfl <;> rw [hf] <;> rfl
  · rw [hq.2 ⟨h1, h2⟩, h3]; rfl
  · have hf : q = false := by rw [Bool.eq_false_iff]; exact fun h => (hq.1 h).2 h2
    rw [hf, h3]; rfl
theorem toutr_er {l : List UInt8} {ff : Nat} {w : World} {fl : Bool} {f : Nat} {s : Bool} {A : Option Addr} {n c : Nat} {er : Int} {q : Bool} (hq : q = true ↔ NoNum l ff) (h : TOutR l ff w fl f s A n c er) : (er == 13) = q := by
  rcases h with ⟨h1, _, _, z, h4, _⟩ | ⟨h1, h2, _, _, _, _, _, _, h3⟩ | ⟨h1, h2, _, _, _, _, _, _, h3⟩
  · have hf : q = false := by rw [Bool.eq_false_iff]; exact fun h => (hq.1 h).1 h1
    rcases pout_er h4 h1 with rfl | rfl <;> rw [hf] <;> rfl
  · rw [hq.2 ⟨h1, h2⟩, h3]; rfl
  · have hf : q = false := by rw [Bool.eq_false_iff]; exact fun h => (hq.1 h).2 h2
    rw [hf, h3]; rfl

set_option maxRecDepth 100000 in
set_option maxHeartbeats 4000000 in
theorem dname_any (s : ByteArray) (ff : Nat) (q : Bool) (hq : q = true ↔ NoNum s.data.toList ff) (hf : ReadsF s ff) (w : World) (hv : FV w) (hx : FX w) (hr : RngCell w) (hsy : SynCell w) :
    Calls Tryz.prog 53 #[.string s] w fun e w' => e = .returned (.bool (nameV s.data.toList q)) ∧ Below w.heap.size w w' := by
  have hz : s.data.toList.length = s.size := by rw [Lib.size_eq]
  have hl := Go.ByteArray.toList_eq s
  obtain ⟨R, hR⟩ : ∃ R, nameV s.data.toList q = R := ⟨_, rfl⟩
  rw [hR]
  unfold nameV at hR
  rw [hz] at hR
  by_cases h1 : s.size < 1
  · have HR := Lib.hid (show R = false by rw [← hR, decide_eq_false (by omega : ¬ 1 ≤ s.size)]; rfl)
    have e1 : decide ((s.size : Int) < 1) = true := decide_eq_true (by omega)
    clear hR hz hl hv hx hr hsy hf hq h1
    go_enter Tryz.func53, Tryz.ntmps53
    go_wp2_with (fail)
    go_returns
    rw [HR.out]
    exact ⟨rfl, Below.refl _ _⟩
  · have e1 : decide ((s.size : Int) < 1) = false := decide_eq_false (by omega)
    by_cases h2 : 40 < s.size
    · have HR := Lib.hid (show R = false by rw [← hR, decide_eq_false (by omega : ¬ s.size ≤ 40)]; simp)
      have e2 : decide ((40 : Int) < (s.size : Int)) = true := decide_eq_true (by omega)
      clear hR hz hl hv hx hr hsy hf hq h1 h2
      go_enter Tryz.func53, Tryz.ntmps53
      go_wp2_with (fail)
      go_returns
      rw [HR.out]
      exact ⟨rfl, Below.refl _ _⟩
    · have e2 : decide ((40 : Int) < (s.size : Int)) = false := decide_eq_false (by omega)
      by_cases h3 : s.data.toList = [46]
      · have HR := Lib.hid (show R = false by rw [← hR, h3]; simp)
        have c1 : (s.toList == [46]) = true := by rw [hl, h3]; rfl
        clear hR hz hl hv hx hr hsy hf hq h1 h2 h3
        go_enter Tryz.func53, Tryz.ntmps53
        go_wp2_with (fail)
        go_returns
        rw [HR.out]
        exact ⟨rfl, Below.refl _ _⟩
      · have c1 : (s.toList == [46]) = false := by rw [hl]; simpa using h3
        have hR2 : (allP s.data.toList && q) = R := by
          rw [← hR, decide_eq_true (by omega : 1 ≤ s.size), decide_eq_true (by omega : s.size ≤ 40), decide_eq_true h3]; rfl
        have HR := Lib.hid hR2
        have HBY := Lib.hid (byF_at s)
        have TP := Lib.hid (fun (hp : allP s.data.toList = true) => tparse_any s ff (by omega) (allP_ascii _ hp) hf w hv hx hr hsy)
        have HQ := Lib.hid hq
        have hS : s.size ≤ 40 := by omega
        have HA := Lib.hid (show allP (s.data.toList.drop 0) = allP s.data.toList from rfl)
        obtain ⟨AP, hAP⟩ : ∃ AP, allP s.data.toList = AP := ⟨_, rfl⟩
        rw [hAP] at HR TP HA
        clear hR hR2 hz hl hv hx hr hsy hf hq h1 h2 h3 hAP
        go_enter Tryz.func53, Tryz.ntmps53
        go_wp2_with (fail)
        go_loopg [20] s.size (fun qq i wr => wr = w ∧ ∃ (j : Nat), s.size - j = qq ∧ j ≤ s.size ∧ i = .int .i64 (j : Int) ∧ Hid (allP (s.data.toList.drop j) = AP))
        case atStart => exact ⟨rfl, 0, rfl, Nat.zero_le _, rfl, HA⟩
        case round =>
          obtain ⟨rfl, j, rfl, hj, rfl, hrun⟩ := hrel
          clear HA
          by_cases hlt : j < s.size
          · obtain ⟨c8, hd, hc8⟩ := drop_byte s j hlt
            have hby := HBY.out j hlt
            have h1 := hrun.out
            rw [hd] at h1
            unfold allP at h1
            rw [hc8] at h1
            obtain ⟨c, hc⟩ : ∃ c, byF s j = c := ⟨_, rfl⟩
            have hc256 : c < 256 := by rw [← hc, ← hc8]; exact c8.toNat_lt
            rw [hc] at hby h1
            have F1 := Lib.hid fun W => isname_any c hc256 W
            have e0 : decide ((j : Int) < (s.size : Int)) = true := decide_eq_true (by omega)
            obtain ⟨k, hk⟩ : ∃ k, plainB c = k := ⟨_, rfl⟩
            rw [hk] at F1 h1
            clear hd hc8 hc hrun hk
            cases k
            · have H1 := Lib.hid (show R = false by rw [← HR.out, ← h1]; rfl)
              clear h1
              go_wp2_with (fail)
              refine (F1.out _).mono ?_
              rintro e w' ⟨rfl, rfl⟩
              go_wp2_with (fail)
              go_ret
              rw [H1.out]
              exact ⟨rfl, Below.refl _ _⟩
            · have H1 := Lib.hid (show allP (s.data.toList.drop (j + 1)) = AP by rw [← h1]; rfl)
              clear h1
              go_wp2_with (fail)
              refine (F1.out _).mono ?_
              rintro e w' ⟨rfl, rfl⟩
              go_wp2_with (fail)
              go_roundg (s.size - (j + 1))
              case measure => omega
              case rel => exact ⟨rfl, j + 1, rfl, by omega, by go_num, H1⟩
          · have hje : j = s.size := by omega
            subst hje
            have h1 := hrun.out
            rw [List.drop_of_length_le (by rw [← Lib.size_eq]; exact Nat.le_refl _)] at h1
            have h1 : true = AP := h1
            subst h1
            have H1 := Lib.hid (show R = q by rw [← HR.out]; rfl)
            have TP2 := Lib.hid (TP.out rfl)
            clear hrun HBY TP HR
            go_wp2_with (fail)
            refine TP2.out.mono ?_
            rintro e w' ⟨fl, f, sg, A, n, cc, er, rfl, ht, hb⟩
            have e13 := tout_er HQ.out ht
            have HB := Lib.hid (hb.alloc hb.size (.cells #[.bool fl, .float .f64 f, .bool sg, .slice A n cc] 27))
            clear ht hb
            go_wp2_with (fail)
            go_returns
            rw [H1.out]
            exact ⟨rfl, HB.out⟩

set_option maxRecDepth 100000 in
set_option maxHeartbeats 4000000 in
theorem rname_any (s : ByteArray) (ff : Nat) (q : Bool) (hq : q = true ↔ NoNum s.data.toList ff) (hf : ReadsF s ff) (w : World) (hv : FV w) (hx : FX w) (hr : RngCell w) :
    Calls Tryz.prog 92 #[.string s] w fun e w' => e = .returned (.bool (nameV s.data.toList q)) ∧ Below w.heap.size w w' := by
  have hz : s.data.toList.length = s.size := by rw [Lib.size_eq]
  have hl := Go.ByteArray.toList_eq s
  obtain ⟨R, hR⟩ : ∃ R, nameV s.data.toList q = R := ⟨_, rfl⟩
  rw [hR]
  unfold nameV at hR
  rw [hz] at hR
  by_cases h1 : s.size < 1
  · have HR := Lib.hid (show R = false by rw [← hR, decide_eq_false (by omega : ¬ 1 ≤ s.size)]; rfl)
    have e1 : decide ((s.size : Int) < 1) = true := decide_eq_true (by omega)
    clear hR hz hl hv hx hr hf hq h1
    go_enter Tryz.func92, Tryz.ntmps92
    go_wp2_with (fail)
    go_returns
    rw [HR.out]
    exact ⟨rfl, Below.refl _ _⟩
  · have e1 : decide ((s.size : Int) < 1) = false := decide_eq_false (by omega)
    by_cases h2 : 40 < s.size
    · have HR := Lib.hid (show R = false by rw [← hR, decide_eq_false (by omega : ¬ s.size ≤ 40)]; simp)
      have e2 : decide ((40 : Int) < (s.size : Int)) = true := decide_eq_true (by omega)
      clear hR hz hl hv hx hr hf hq h1 h2
      go_enter Tryz.func92, Tryz.ntmps92
      go_wp2_with (fail)
      go_returns
      rw [HR.out]
      exact ⟨rfl, Below.refl _ _⟩
    · have e2 : decide ((40 : Int) < (s.size : Int)) = false := decide_eq_false (by omega)
      by_cases h3 : s.data.toList = [46]
      · have HR := Lib.hid (show R = false by rw [← hR, h3]; simp)
        have c1 : (s.toList == [46]) = true := by rw [hl, h3]; rfl
        clear hR hz hl hv hx hr hf hq h1 h2 h3
        go_enter Tryz.func92, Tryz.ntmps92
        go_wp2_with (fail)
        go_returns
        rw [HR.out]
        exact ⟨rfl, Below.refl _ _⟩
      · have c1 : (s.toList == [46]) = false := by rw [hl]; simpa using h3
        have hR2 : (allP s.data.toList && q) = R := by
          rw [← hR, decide_eq_true (by omega : 1 ≤ s.size), decide_eq_true (by omega : s.size ≤ 40), decide_eq_true h3]; rfl
        have HR := Lib.hid hR2
        have HBY := Lib.hid (byF_at s)
        have TP := Lib.hid (fun (hp : allP s.data.toList = true) => rtparse_any s ff (by omega) hf w hv hx hr)
        have HQ := Lib.hid hq
        have hS : s.size ≤ 40 := by omega
        have HA := Lib.hid (show allP (s.data.toList.drop 0) = allP s.data.toList from rfl)
        obtain ⟨AP, hAP⟩ : ∃ AP, allP s.data.toList = AP := ⟨_, rfl⟩
        rw [hAP] at HR TP HA
        clear hR hR2 hz hl hv hx hr hf hq h1 h2 h3 hAP
        go_enter Tryz.func92, Tryz.ntmps92
        go_wp2_with (fail)
        go_loopg [3] s.size (fun qq i wr => wr = w ∧ ∃ (j : Nat), s.size - j = qq ∧ j ≤ s.size ∧ i = .int .i64 (j : Int) ∧ Hid (allP (s.data.toList.drop j) = AP))
        case atStart => exact ⟨rfl, 0, rfl, Nat.zero_le _, rfl, HA⟩
        case round =>
          obtain ⟨rfl, j, rfl, hj, rfl, hrun⟩ := hrel
          clear HA
          by_cases hlt : j < s.size
          · obtain ⟨c8, hd, hc8⟩ := drop_byte s j hlt
            have hby := HBY.out j hlt
            have h1 := hrun.out
            rw [hd] at h1
            unfold allP at h1
            rw [hc8] at h1
            obtain ⟨c, hc⟩ : ∃ c, byF s j = c := ⟨_, rfl⟩
            have hc256 : c < 256 := by rw [← hc, ← hc8]; exact c8.toNat_lt
            rw [hc] at hby h1
            have F1 := Lib.hid fun W => plain_any c hc256 W
            have e0 : decide ((j : Int) < (s.size : Int)) = true := decide_eq_true (by omega)
            obtain ⟨k, hk⟩ : ∃ k, plainB c = k := ⟨_, rfl⟩
            rw [hk] at F1 h1
            clear hd hc8 hc hrun hk
            cases k
            · have H1 := Lib.hid (show R = false by rw [← HR.out, ← h1]; rfl)
              clear h1
              go_wp2_with (fail)
              refine (F1.out _).mono ?_
              rintro e w' ⟨rfl, rfl⟩
              go_wp2_with (fail)
              go_ret
              rw [H1.out]
              exact ⟨rfl, Below.refl _ _⟩
            · have H1 := Lib.hid (show allP (s.data.toList.drop (j + 1)) = AP by rw [← h1]; rfl)
              clear h1
              go_wp2_with (fail)
              refine (F1.out _).mono ?_
              rintro e w' ⟨rfl, rfl⟩
              go_wp2_with (fail)
              go_roundg (s.size - (j + 1))
              case measure => omega
              case rel => exact ⟨rfl, j + 1, rfl, by omega, by go_num, H1⟩
          · have hje : j = s.size := by omega
            subst hje
            have h1 := hrun.out
            rw [List.drop_of_length_le (by rw [← Lib.size_eq]; exact Nat.le_refl _)] at h1
            have h1 : true = AP := h1
            subst h1
            have H1 := Lib.hid (show R = q by rw [← HR.out]; rfl)
            have TP2 := Lib.hid (TP.out rfl)
            clear hrun HBY TP HR
            go_wp2_with (fail)
            refine TP2.out.mono ?_
            rintro e w' ⟨fl, f, sg, A, n, cc, er, rfl, ht, hb⟩
            have e13 := toutr_er HQ.out ht
            have HB := Lib.hid (hb.alloc hb.size (.cells #[.bool fl, .float .f64 f, .bool sg, .slice A n cc] 27))
            clear ht hb
            go_wp2_with (fail)
            go_returns
            rw [H1.out]
            exact ⟨rfl, HB.out⟩

end LM
end Go.Proofs.YtnpmfailpgbggaaGreatDoor

namespace Go.Proofs.YtnpmfailpgbggaaGreatDoor
open Go Go.Shelf Go.RowKit Go.Sort Go.Lib
namespace LM
set_option linter.unusedVariables false

theorem nonum_bool (l : List UInt8) (ff : Nat) : ∃ q : Bool, q = true ↔ NoNum l ff := by
  by_cases h : NoNum l ff
  · exact ⟨true, fun _ => h, fun _ => rfl⟩
  · exact ⟨false, fun h2 => Bool.noConfusion h2, fun h2 => absurd h2 h⟩

end LM
end Go.Proofs.YtnpmfailpgbggaaGreatDoor
