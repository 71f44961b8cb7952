/- Walks of package arena: the law ArenaNames. -/
import Derived.Test.YtghnaiinhbdgcaaArenaL
namespace Go.Proofs.Ytghnaiinhbdgcaa
open Go Go.RowKit
namespace LM
set_option linter.unusedVariables false

theorem new_empty (b wb tb mb : Nat) : cntE (Ar.new 3 b wb tb mb).T (Ar.new 3 b wb tb mb).nb = 3 := cntE_all 3 fun _ _ => rfl
set_option maxRecDepth 100000 in
set_option maxHeartbeats 4000000 in
theorem anames (w : World) : Calls Try.prog 3 #[] w fun e w' => e = .returned (.bool true) ∧ Mv w w' [] := by
  have N1 := Lib.hid (anew 3 w (by decide) (by decide))
  go_enter Try.func3, Try.ntmps3
  go_wp2_with (fail)
  refine N1.out.mono ?_
  rintro e w1 ⟨b, wb, tb, mb, rfl, hA, hm, hk⟩
  have B1 := Lib.hid (aget_no (Ar.new 3 b wb tb mb) 768 w1 hA (by show ¬ (0 ≤ (768 : Int) ∧ (768 : Int) < ((256 * 3 : Nat) : Int)); decide))
  have A1 := Lib.hid hA
  have M1 := Lib.hid hm
  clear hA hm hk
  go_wp2_with (fail)
  refine B1.out.mono ?_
  rintro e w1 ⟨rfl, rfl⟩
  go_wp2_with (fail)
  refine (aalive _).mono ?_
  rintro e w2 ⟨rfl, hm⟩
  have A2 := Lib.hid (A1.out.mv hm (by simp))
  have M2 := Lib.hid (M1.out.trans hm)
  have B2 := Lib.hid (ablocks _ w2 A2.out)
  have B3 := Lib.hid (aempty _ w2 A2.out)
  rw [new_empty] at B3
  clear hm
  go_wp2_with (fail)
  refine B2.out.mono ?_
  rintro e w2 ⟨rfl, rfl⟩
  go_wp2_with (fail)
  refine B3.out.mono ?_
  rintro e w3 ⟨rfl, hm⟩
  have A3 := Lib.hid (A2.out.mv hm (by simp))
  have M3 := Lib.hid (M2.out.trans hm)
  have B4 := Lib.hid (aset_no _ (-1) 0 w3 A3.out (fun h => by have := h.1; omega))
  have N2 := Lib.hid (anew0 w3)
  clear hm
  go_wp2_with (fail)
  refine B4.out.mono ?_
  rintro e w3 ⟨rfl, rfl⟩
  go_wp2_with (fail)
  refine N2.out.mono ?_
  rintro e w4 ⟨b', wb', tb', mb', rfl, hA, hm, hk⟩
  have B5 := Lib.hid (ablocks _ w4 hA)
  have M4 := Lib.hid (M3.out.trans hm)
  clear hA hm hk
  go_wp2_with (fail)
  refine B5.out.mono ?_
  rintro e w4 ⟨rfl, rfl⟩
  go_wp2_with (fail)
  go_ret
  exact ⟨rfl, M4.out⟩
end LM
end Go.Proofs.Ytghnaiinhbdgcaa
