/- Text of a slice that came in; the digits of a number: the first one, how many. -/
import Derived.Test.YtfckjapedjjhpaaDoorLimbText
import Derived.Test.YtfckjapedjjhpaaDoorLimbParseMath
namespace Go.Proofs.YtfckjapedjjhpaaDoor
open Go.RowKit
namespace LM

set_option maxHeartbeats 1000000 in
theorem text_row (A : Option Addr) (cap : Nat) (xs : List Nat) (w : World) (ha : Rd w A xs) (hx : Lm xs) (hca : xs.length ≤ cap) (hcam : cap ≤ 9223372036854775807)
    (htab : Lib.TabIs Tryd.prog w "internal/strconv.uint64pow10" .u64 Lib.pow10Tab) :
    Calls Tryd.prog 42 #[.slice A xs.length cap] w fun e w' => TextE (val xs) e ∧ Below w.heap.size w w' := by
  rcases Nat.eq_zero_or_pos xs.length with h0 | h0
  · obtain rfl := List.eq_nil_of_length_eq_zero h0
    have H1 := Lib.hid (trimmed_any A cap [] w ha hca (by unfold maxLen; omega))
    rw [show trim [] = [] from rfl] at H1
    have I1 : ∀ W, Calls Tryd.prog 63 #[.slice A ([] : List Nat).length cap] W fun e w' => e = .returned (.bool (decide (64 < ([] : List Nat).length))) ∧ W = w' := fun W => isBig_any A _ cap W (by unfold maxLen; simp)
    have HI := Lib.hid I1
    clear I1 h0 htab
    go_enter Tryd.func42, Tryd.ntmps42
    go_wp2_with fail
    refine H1.out.mono ?_; rintro e w1 ⟨rfl, rfl⟩
    go_wp2_with fail
    refine (HI.out _).mono ?_; rintro e w1 ⟨rfl, rfl⟩
    go_wp2
    go_ret
    refine ⟨⟨[48], rfl, .inr ⟨fun h => ?_, by rw [show val [] = 0 from rfl, Lib.decDigits_one (by decide)]; rfl⟩⟩, Below.refl _ _⟩
    have := Nat.lt_of_lt_of_le (Nat.pow_pos (show 0 < 4294967296 from by decide)) h
    cases this
  · refine text_any A cap xs w ha (fun ad e => ?_) hx hca hcam htab
    obtain ⟨b, off, e1, hb, _⟩ := ha h0
    rw [e1] at e
    injection e with e
    subst e
    exact hb

theorem dec_first (u : Nat) (hu : 0 < u) : ∃ c r, Lib.decDigits u = c :: r ∧ c ≠ 48 := by
  induction u using Nat.strongRecOn with
  | ind u ih =>
    by_cases h : u < 10
    · rw [Lib.decDigits_one h]
      refine ⟨_, [], rfl, fun e => ?_⟩
      have e1 : (UInt8.ofNat (48 + u)).toNat = 48 + u := by simp; omega
      rw [e] at e1
      have e2 : (48 : UInt8).toNat = 48 := rfl
      omega
    · rw [dec_big h]
      obtain ⟨c, r, e, hc⟩ := ih (u / 10) (by omega) (by omega)
      rw [e]
      exact ⟨c, r ++ [_], rfl, hc⟩
theorem pow_fits : (4294967296 : Nat) ^ 64 ≤ 10 ^ (616 + 1) := of_decide_eq_true (by kernel_rfl)
theorem dec_fits {u : Nat} (h : ¬ BIG u) : 1 ≤ (Lib.decDigits u).length ∧ (Lib.decDigits u).length ≤ 617 := by
  have h2 : Lib.nDigits u ≤ 616 + 1 := nDigits_le (k := 616) (Nat.lt_of_lt_of_le (Nat.lt_of_not_le h) pow_fits)
  rw [Lib.decDigits_length]
  refine ⟨?_, by omega⟩
  rw [← Lib.decDigits_length]
  rcases Nat.eq_zero_or_pos u with rfl | hp
  · rw [Lib.decDigits_one (by decide)]; simp
  · obtain ⟨c, r, e, _⟩ := dec_first u hp
    rw [e]; simp

end LM
end Go.Proofs.YtfckjapedjjhpaaDoor
