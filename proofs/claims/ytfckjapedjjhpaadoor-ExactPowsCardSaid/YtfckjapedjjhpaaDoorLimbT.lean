/- Walks of package limb: Of and Small. -/
import Derived.Test.YtfckjapedjjhpaaDoorLimbQ
namespace Go.Proofs.YtfckjapedjjhpaaDoor
open Go.RowKit
namespace LM

set_option maxHeartbeats 400000 in
theorem of_any (n : Nat) (w : World) (hn : n < 18446744073709551616) :
    Calls Tryd.prog 41 #[.int .u64 (n : Int)] w fun e w' => (∃ v, e = .returned v ∧ NumV w' v n) ∧ Below w.heap.size w w' := by
  have e1 : (n : Int) % 4294967296 = ((n % 4294967296 : Nat) : Int) := by simp
  have e2 : (n : Int) / 4294967296 = ((n / 4294967296 : Nat) : Int) := by simp
  have l1 : n % 4294967296 < 4294967296 := Nat.mod_lt _ (by decide)
  have l2 : n / 4294967296 < 4294967296 := by omega
  have hv : val [n % 4294967296, n / 4294967296] = n := by simp [val]; omega
  generalize n % 4294967296 = lo at *
  generalize n / 4294967296 = hi at *
  have HV := Lib.hid hv
  clear hv
  go_enter Tryd.func41, Tryd.ntmps41
  go_wp2_with fail
  refine (trimmed_num (N := 2) (us := [lo, hi]) (by simpa [U] using Blk.new w (U [lo, hi])) rfl (Lm.cons l1 (Lm.cons l2 Lm.nil)) (by decide)).mono ?_
  rintro e w1 ⟨⟨v, rfl, hnv⟩, rfl⟩
  rw [HV.out] at hnv
  have HN := Lib.hid hnv
  clear hnv
  go_wp2
  go_ret
  exact ⟨⟨v, rfl, HN.out⟩, (Below.refl _ _).alloc (Nat.le_refl _) _⟩

set_option maxHeartbeats 400000 in
theorem small_any (A : Option Addr) (ca : Nat) (xs : List Nat) (w : World) (ha : Rd w A xs) (hx : Lm xs) (hca : xs.length ≤ ca) (hcam : ca ≤ 9223372036854775807) :
    Calls Tryd.prog 48 #[.slice A xs.length ca] w fun e w' =>
      ((val xs < 18446744073709551616 ∧ e = .returned (.tuple #[.int .u64 ((val xs : Nat) : Int), .bool true])) ∨ (18446744073709551616 ≤ val xs ∧ e = .returned (.tuple #[.int .u64 0, .bool false]))) ∧ w = w' := by
  have H1 := Lib.hid (trimmed_any A ca xs w ha hca (by unfold maxLen; omega))
  have hta := ha.trim
  have hcx := can_trim hx
  rw [← val_trim xs]
  have hlx := trim_length_le xs
  generalize trim xs = xt at *
  clear ha
  by_cases h2 : 2 < xt.length
  · have hb := (can_len hcx 2).1 h2
    have HB : Hid (18446744073709551616 ≤ val xt) := Lib.hid hb
    clear hb
    go_enter Tryd.func48, Tryd.ntmps48
    go_wp2_with fail
    refine H1.out.mono ?_; rintro e w' ⟨rfl, rfl⟩
    go_wp2
    go_ret2
    exact ⟨.inr ⟨HB.out, rfl⟩, rfl⟩
  · have hb : val xt < 18446744073709551616 := val_len_lt hcx.1 (n := 2) (by omega)
    have l0 := hcx.1.get 0
    have l1 := hcx.1.get 1
    have hv : val xt = xt[1]?.getD 0 * 4294967296 + xt[0]?.getD 0 := by
      have e1 := val_take_succ xt 0
      have e2 := val_take_succ xt 1
      rw [List.take_of_length_le (by omega)] at e2
      rw [e2, e1]; simp [val]; omega
    have hoh := or_high l1 l0
    have k1 := fun W h => at_nat A ca xt 1 (xt[1]?.getD 0) W h (by omega) rfl
    have k0 := fun W h => at_nat A ca xt 0 (xt[0]?.getD 0) W h (by omega) rfl
    rw [hv] at hb ⊢
    generalize xt[1]?.getD 0 = y1 at *
    generalize xt[0]?.getD 0 = y0 at *
    have K1 := Lib.hid k1
    have K0 := Lib.hid k0
    have HB := Lib.hid hb
    clear hv k1 k0 hb
    go_enter Tryd.func48, Tryd.ntmps48
    go_wp2_with fail
    refine H1.out.mono ?_; rintro e w' ⟨rfl, rfl⟩
    go_wp2_with fail
    refine (K1.out _ hta).mono ?_; rintro e w' ⟨rfl, rfl⟩
    go_wp2_with fail
    refine (K0.out _ hta).mono ?_; rintro e w' ⟨rfl, rfl⟩
    go_wp2
    go_ret2
    exact ⟨.inl ⟨HB.out, rfl⟩, rfl⟩

end LM
end Go.Proofs.YtfckjapedjjhpaaDoor
