/- The smallest walks of package limb: at, trimmed, isBig. -/
import Derived.Test.YtpnjddfnlaonoaaGreatDoorProg
import Derived.Test.YtpnjddfnlaonoaaGreatDoorL02
namespace Go.Proofs.YtpnjddfnlaonoaaGreatDoor
open Go.RowKit
namespace LM

def atI (xs : List Nat) (i : Int) : Nat := if i < 0 then 0 else xs[i.toNat]?.getD 0
theorem atI_nat (xs : List Nat) (k : Nat) : atI xs (k : Int) = xs[k]?.getD 0 := by
  unfold atI; rw [if_neg (by omega)]; rfl
theorem atI_neg (xs : List Nat) {i : Int} (h : i < 0) : atI xs i = 0 := by unfold atI; rw [if_pos h]
theorem atI_lt {xs : List Nat} (h : Lm xs) (i : Int) : atI xs i < 4294967296 := by
  unfold atI; split
  · decide
  · exact h.get _

set_option maxHeartbeats 400000 in
theorem at_any (A : Option Addr) (c : Nat) (xs : List Nat) (i : Int) (w : World) (hr : Rd w A xs) (_hi : -9223372036854775808 ≤ i) (_hj : i ≤ 9223372036854775807) :
    Calls Tryz.prog 206 #[.slice A xs.length c, .int .i64 i] w fun e w' => e = .returned (.int .u32 ((atI xs i : Nat) : Int)) ∧ w = w' := by
  by_cases h0 : i < 0
  · rw [atI_neg xs h0]
    go_enter Tryz.func206, Tryz.ntmps206
    go_wp2
    go_ret
    exact ⟨rfl, rfl⟩
  · obtain ⟨k, rfl⟩ := Int.eq_ofNat_of_zero_le (by omega : 0 ≤ i)
    rw [atI_nat]
    by_cases h1 : k < xs.length
    · obtain ⟨b, off, rfl, hb, hc⟩ := hr.at_ h1
      go_enter Tryz.func206, Tryz.ntmps206
      go_wp2
      go_ret
      exact ⟨rfl, rfl⟩
    · rw [List.getElem?_eq_none (by omega)]
      go_enter Tryz.func206, Tryz.ntmps206
      go_wp2
      go_ret
      exact ⟨rfl, rfl⟩

set_option maxHeartbeats 400000 in
theorem isBig_any (A : Option Addr) (n c : Nat) (w : World) (hn : n ≤ maxLen) :
    Calls Tryz.prog 180 #[.slice A n c] w fun e w' => e = .returned (.bool (decide (64 < n))) ∧ w = w' := by
  unfold maxLen at hn
  go_enter Tryz.func180, Tryz.ntmps180
  go_wp2
  go_ret
  refine ⟨?_, rfl⟩
  congr 2
  simp
  omega

def lenS : Value → Nat | .slice _ n _ => n | _ => 0

theorem trim_take_zero (xs : List Nat) (j : Nat) (h : j < xs.length) (hz : xs[j]?.getD 0 = 0) : trim (xs.take (j + 1)) = trim (xs.take j) := by
  rw [List.take_succ_eq_append_getElem h]
  rw [List.getElem?_eq_getElem h] at hz
  simp only [Option.getD_some] at hz
  rw [hz, trim_snoc_zero]
theorem trim_take_pos (xs : List Nat) (j : Nat) (h : j < xs.length) (hz : xs[j]?.getD 0 ≠ 0) : trim (xs.take (j + 1)) = xs.take (j + 1) := by
  rw [List.take_succ_eq_append_getElem h]
  rw [List.getElem?_eq_getElem h] at hz
  exact trim_snoc_pos _ (by simpa using hz)

set_option maxHeartbeats 400000 in
theorem trimmed_any (A : Option Addr) (c : Nat) (xs : List Nat) (w : World) (hr : Rd w A xs) (hnc : xs.length ≤ c) (hc : c ≤ maxLen) :
    Calls Tryz.prog 152 #[.slice A xs.length c] w fun e w' => e = .returned (.slice A (trim xs).length c) ∧ w = w' := by
  unfold maxLen at hc
  go_enter Tryz.func152, Tryz.ntmps152
  go_wp2
  go_loop [0] (fun v => ∃ k : Nat, k ≤ xs.length ∧ v = .slice A k c ∧ trim (xs.take k) = trim xs) (fun v => lenS v)
  case atStart => exact ⟨xs.length, Nat.le_refl _, rfl, by rw [List.take_length]⟩
  case round =>
    obtain ⟨k, hk, rfl, ht⟩ := hrel
    have HT := Lib.hid ht
    clear ht
    rcases k with _ | j
    · go_wp2
      go_ret
      refine ⟨?_, rfl⟩
      have h := congrArg List.length HT.out
      exact congrArg (fun n => Ending.returned (Value.slice A n c)) h
    · obtain ⟨b, off, rfl, hb, hcell⟩ := hr.at_ (by omega : j < xs.length)
      by_cases hz : xs[j]?.getD 0 = 0
      · have h1 := trim_take_zero xs j (by omega) hz
        rw [hz] at hcell
        clear hz
        have H1 := Lib.hid h1
        clear h1
        go_wp2
        go_round
        case rel => exact ⟨j, by omega, by go_num, by rw [← H1.out, HT.out]⟩
        case measure => simp [lenS]
      · have hzz : (((xs[j]?.getD 0 : Nat) : Int) == 0) = false := by rw [beq_eq_false_iff_ne]; omega
        have h1 := trim_take_pos xs j (by omega) hz
        clear hz
        have H1 := Lib.hid h1
        clear h1
        go_wp2
        go_ret
        refine ⟨?_, rfl⟩
        have h := congrArg List.length (H1.out.symm.trans HT.out)
        rw [List.length_take, Nat.min_eq_left hk] at h
        exact congrArg (fun n => Ending.returned (Value.slice _ n c)) h

end LM
end Go.Proofs.YtpnjddfnlaonoaaGreatDoor
