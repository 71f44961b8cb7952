/- Walks: the floating number of an exact one that has at most 53 digits. -/
import Derived.Test.YtpnjddfnlaonoaaGreatDoorL33
import Derived.Test.YtpnjddfnlaonoaaGreatDoorL07
import Derived.Test.YtpnjddfnlaonoaaGreatDoorL41
namespace Go.Proofs.YtpnjddfnlaonoaaGreatDoor
open Go Go.RowKit
namespace LM
set_option linter.unusedVariables false

end LM
end Go.Proofs.YtpnjddfnlaonoaaGreatDoor

namespace Go.Proofs.YtpnjddfnlaonoaaGreatDoor
open Go Go.RowKit
namespace LM
set_option linter.unusedVariables false

theorem whole_norm (s : Bool) (q : Nat) (h0 : 0 < q) (hq : q < 9007199254740992) : ∃ k : Nat, k ≤ 52 ∧ CanF (q * 2 ^ k) (-(k : Int)) ∧ 4503599627370496 ≤ q * 2 ^ k ∧ Ieee.double.nearest s q 0 = wordF s (q * 2 ^ k) (-(k : Int)) := by
  have hM0 : q ≠ 0 := by omega
  have l1 : q.log2 < 53 := (Nat.log2_lt hM0).2 (by omega)
  have l2 := Nat.log2_self_le hM0
  have l3 := @Nat.lt_log2_self q
  obtain ⟨k, hk⟩ : ∃ k, 52 - q.log2 = k := ⟨_, rfl⟩
  have b1 : q * 2 ^ k < 9007199254740992 := by
    have : q * 2 ^ k < 2 ^ (q.log2 + 1) * 2 ^ k := Nat.mul_lt_mul_of_pos_right l3 (Nat.two_pow_pos _)
    rw [← Nat.pow_add, show q.log2 + 1 + k = 53 from by omega] at this
    omega
  have b2 : 4503599627370496 ≤ q * 2 ^ k := by
    have h1 : 2 ^ q.log2 * 2 ^ k ≤ q * 2 ^ k := Nat.mul_le_mul_right _ l2
    rw [← Nat.pow_add, show q.log2 + k = 52 from by omega] at h1
    omega
  have hc : CanF (q * 2 ^ k) (-(k : Int)) := ⟨b1, by omega, by omega, .inl b2⟩
  refine ⟨k, by omega, hc, b2, ?_⟩
  have h := nearest_scale s q k 0
  rw [show (0 : Int) - (k : Int) = -(k : Int) from by omega] at h
  rw [← h]
  exact nearest_can hc

theorem ofInt_nat (z : Nat) : floatOfInt .f64 (z : Int) = Ieee.double.nearest false z 0 := by
  unfold floatOfInt FloatKind.nearest FloatKind.encode
  rw [show decide ((z : Int) < 0) = false from decide_eq_false (by omega), Int.natAbs_natCast]
  rfl

/-- times two to the power of nothing -/
theorem ldexp_small (z : Nat) (hz : z < 9007199254740992) (w : World) :
    Calls Tryz.prog 85 #[.float .f64 (floatOfInt .f64 (z : Int)), .int .i64 0] w fun r w' => r = .returned (.float .f64 (floatOfInt .f64 (z : Int))) ∧ ∃ k, w' = w.drewN k := by
  rw [ofInt_nat]
  rcases Nat.eq_zero_or_pos z with rfl | h0
  · rw [nearest_zero]
    exact ldexp_zero false 0 w
  · obtain ⟨k, hk, hc, hn, he⟩ := whole_norm false z h0 hz
    rw [he]
    have h := ldexp_can (s := false) hc hn 0 (by omega) (by omega) w
    rw [Int.add_zero] at h
    exact h

set_option maxRecDepth 100000 in
set_option maxHeartbeats 1000000 in
theorem highest_small (z : Nat) (hz : z < 18446744073709551616) (A : Option Addr) (ca : Nat) (xs : List Nat) (w : World) (ha : Rd w A xs) (hx : Lm xs) (hca : xs.length ≤ ca) (hcam : ca ≤ 9223372036854775807) (hv : val xs = z) :
    Calls Tryz.prog 89 #[.slice A xs.length ca] w fun e w' => e = .returned (.tuple #[.int .u64 (z : Int), .int .i64 0]) ∧ w = w' := by
  have S1 : Hid (Calls Tryz.prog 150 #[.slice A xs.length ca] w fun e w' => e = .returned (.tuple #[.int .u64 (z : Int), .bool true]) ∧ w = w') := Lib.hid ((small_any A ca xs w ha hx hca hcam).mono fun e w' ⟨h, h2⟩ => by
    refine ⟨?_, h2⟩
    rw [hv] at h
    rcases h with ⟨_, h⟩ | ⟨h, _⟩
    · exact h
    · omega)
  clear ha hx hv
  go_enter Tryz.func89, Tryz.ntmps89
  go_wp2_with (fail)
  refine S1.out.mono ?_
  rintro e w' ⟨rfl, rfl⟩
  go_wp2
  go_ret2
  exact ⟨rfl, rfl⟩

set_option maxRecDepth 100000 in
set_option maxHeartbeats 2000000 in
theorem floof_small (z : Nat) (hz : z < 9007199254740992) (v : Value) (w : World) (hv : IntV w v (z : Int)) :
    Calls Tryz.prog 41 #[v] w fun e w' => e = .returned (.float .f64 (floatOfInt .f64 (z : Int))) ∧ Below w.heap.size w w' := by
  obtain ⟨A, c, r, rfl, h1, h2, h3, h4, h5⟩ := hv
  have h5' : val r = z := by rw [h5, Int.natAbs_natCast]
  have hrl : r.length ≤ 1000 := by
    have := can_len h4 2
    have h6 : ¬ 2 < r.length := fun h => by
      have h7 := this.1 h
      rw [h5', show 4294967296 ^ 2 = 18446744073709551616 from by decide] at h7
      omega
    omega
  rw [show decide ((z : Int) < 0) = false from decide_eq_false (by omega)]
  have hb0 : Below w.heap.size w (w.alloc (.cells #[.bool false, .slice A r.length c] 36)) := (Below.refl _ w).alloc (Nat.le_refl _) _
  have X0 := Lib.hid (Bx.new w false A r.length c)
  have T1 := Lib.hid (trimUp_any A c r _ (h3.below hb0) h4.1 h1 h2 hrl)
  have HB0 := Lib.hid hb0
  have H5 := Lib.hid h5'
  have L1 := Lib.hid (ldexp_small z hz)
  have hf : ∃ F, floatOfInt .f64 (z : Int) = F := ⟨_, rfl⟩
  obtain ⟨F, hF⟩ := hf
  have hzl : (z : Int) < 18446744073709551616 := by omega
  rw [hF] at L1 ⊢
  clear h3 h4 h5 h5' hb0
  go_enter Tryz.func41, Tryz.ntmps41
  go_wp2_with (fail)
  refine T1.out.mono ?_
  rintro e w1 ⟨q, rfl, hB, hq, hqv, hql, hb1⟩
  have X1 := Lib.hid (X0.out.below hb1)
  have HB1 := Lib.hid (HB0.out.trans (hb1.mono HB0.out.size))
  have HH := Lib.hid (highest_small z (by omega) _ _ q w1 (Rd.of_blk (pre := []) (post := []) (by simpa using hB)) hq.1 (Nat.le_refl _) (by omega) (hqv.trans H5.out))
  clear hB hq hqv hb1
  obtain ⟨q0, q1, -, -, ql⟩ := X1.out.facts
  go_wp2_with (fail)
  refine HH.out.mono ?_
  rintro e w2 ⟨rfl, rfl⟩
  go_wp2_with (fail)
  refine (L1.out _).mono ?_
  rintro e w2 ⟨rfl, k, rfl⟩
  go_wp2_with (fail)
  go_ret
  exact ⟨rfl, below_drewN HB1.out _⟩

end LM
end Go.Proofs.YtpnjddfnlaonoaaGreatDoor
