/- The law ArenaApart, whatever is asked. -/
import Derived.Test.YtghnaiinhbdgcaaArenaT
namespace Go.Proofs.Ytghnaiinhbdgcaa
open Go Go.RowKit
namespace LM
set_option linter.unusedVariables false

set_option maxRecDepth 100000 in
set_option maxHeartbeats 8000000 in
theorem aapart_no (a0 : Int) (S : Option Addr) (xs : List Act4) (cap : Nat) (w : World) (h : a0 < 1 ∨ 8 < a0 ∨ 200 < xs.length) :
    Calls Try.prog 4 #[.int .i64 a0, .slice S xs.length cap] w fun e w' => e = .returned (.bool true) ∧ Below w.heap.size w w' := by
  obtain ⟨N, hN⟩ : ∃ N, xs.length = N := ⟨_, rfl⟩
  rw [hN] at h ⊢
  clear hN
  have HM := Lib.hid fun w' (hm : Mv w w' []) => hm.below (B := w.heap.size) (Nat.le_refl _) (fun _ hk => by cases hk)
  have AL := Lib.hid (aalive w)
  by_cases h1 : a0 < 1
  · have d1 : decide (a0 < 1) = true := decide_eq_true h1
    clear h h1
    go_enter Try.func4, Try.ntmps4
    go_wp2_with (fail)
    refine AL.out.mono ?_
    rintro e w1 ⟨rfl, m1⟩
    have M1 := Lib.hid (HM.out _ m1)
    clear m1
    go_wp2_with (fail)
    go_ret
    exact ⟨rfl, M1.out⟩
  · have d1 : decide (a0 < 1) = false := decide_eq_false h1
    by_cases h2 : 8 < a0
    · have d2 : decide (8 < a0) = true := decide_eq_true h2
      clear h h1 h2
      go_enter Try.func4, Try.ntmps4
      go_wp2_with (fail)
      refine AL.out.mono ?_
      rintro e w1 ⟨rfl, m1⟩
      have M1 := Lib.hid (HM.out _ m1)
      clear m1
      go_wp2_with (fail)
      go_ret
      exact ⟨rfl, M1.out⟩
    · have d2 : decide (8 < a0) = false := decide_eq_false h2
      have d3 : decide (200 < N) = true := decide_eq_true (by omega)
      have d4 : decide ((200 : Int) < (N : Int)) = true := decide_eq_true (by omega)
      clear h h1 h2
      go_enter Try.func4, Try.ntmps4
      go_wp2_with (fail)
      refine AL.out.mono ?_
      rintro e w1 ⟨rfl, m1⟩
      have M1 := Lib.hid (HM.out _ m1)
      clear m1
      go_wp2_with (fail)
      go_ret
      exact ⟨rfl, M1.out⟩

theorem aapart (a0 : Int) (S : Option Addr) (xs : List Act4) (cap : Nat) (w : World) (hx : ∀ x ∈ xs, ActR x) (hS : ActsAt w S xs) (hc : xs.length ≤ cap ∧ cap ≤ 9223372036854775807) :
    Calls Try.prog 4 #[.int .i64 a0, .slice S xs.length cap] w fun e w' => e = .returned (.bool true) ∧ Below w.heap.size w w' := by
  by_cases h : a0 < 1 ∨ 8 < a0 ∨ 200 < xs.length
  · exact aapart_no a0 S xs cap w h
  · obtain ⟨nb, rfl⟩ := Int.eq_ofNat_of_zero_le (by omega : 0 ≤ a0)
    exact aapart_yes nb S xs cap w (by omega) (by omega) (by omega) hx hS hc
end LM
end Go.Proofs.Ytghnaiinhbdgcaa
