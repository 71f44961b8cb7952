/- Walks: the exact number of a floating one, at one number; the floating number of an exact one. -/
import Derived.Test.YtpnjddfnlaonoaaGreatDoorL33
import Derived.Test.YtpnjddfnlaonoaaGreatDoorL32
import Derived.Test.YtpnjddfnlaonoaaGreatDoorL20
import Derived.Test.YtpnjddfnlaonoaaGreatDoorL15
import Derived.Test.YtpnjddfnlaonoaaGreatDoorL17
namespace Go.Proofs.YtpnjddfnlaonoaaGreatDoor
open Go Go.RowKit
namespace LM
set_option linter.unusedVariables false

theorem pow_not_big {t : Nat} (h : t ≤ 2000) : ¬ BigI ((2 ^ t : Nat) : Int) := by
  intro hb
  unfold BigI BIG at hb
  obtain ⟨b, hbe⟩ : ∃ b, 32 * 64 = b := ⟨_, rfl⟩
  rw [Int.natAbs_natCast, show 4294967296 = 2 ^ 32 from by decide, ← Nat.pow_mul, hbe] at hb
  have h1 : 2 ^ t < 2 ^ b := Nat.pow_lt_pow_right (by decide) (by omega)
  omega
theorem pow_mul_pow (a b : Nat) : ((2 ^ a : Nat) : Int) * ((2 ^ b : Nat) : Int) = ((2 ^ (a + b) : Nat) : Int) := by
  rw [← Int.natCast_mul, ← Nat.pow_add]
/-- a power of two by squaring -/
theorem powI_two (k : Nat) : ∀ u v : Nat, u + v * k ≤ 1000 → v ≤ 1000 → powI k ((2 ^ u : Nat) : Int) ((2 ^ v : Nat) : Int) = some ((2 ^ (u + v * k) : Nat) : Int) := by
  induction k using Nat.strongRecOn with
  | _ k ih =>
    intro u v h hv
    by_cases h1 : k % 2 = 1
    · by_cases h2 : k / 2 = 0
      · obtain rfl : k = 1 := by omega
        rw [powI_odd_end h1 h2 (by rw [pow_mul_pow]; exact pow_not_big (by omega)), pow_mul_pow, Nat.mul_one]
      · have e1 : v * k = v + (v + v) * (k / 2) := by
          have : k = 1 + 2 * (k / 2) := by omega
          rw [this, Nat.mul_add, Nat.mul_one, show (1 + 2 * (k / 2)) / 2 = k / 2 from by omega, ← Nat.mul_assoc, Nat.mul_comm v 2, Nat.two_mul]
        have e2 : v + v ≤ (v + v) * (k / 2) := Nat.le_mul_of_pos_right _ (by omega)
        rw [powI_odd_go h1 h2 (by rw [pow_mul_pow]; exact pow_not_big (by omega)) (by rw [pow_mul_pow]; exact pow_not_big (by omega)), pow_mul_pow, pow_mul_pow, ih (k / 2) (by omega) (u + v) (v + v) (by omega) (by omega), show u + v + (v + v) * (k / 2) = u + v * k from by omega]
    · by_cases h2 : k / 2 = 0
      · obtain rfl : k = 0 := by omega
        rw [powI_even_end h1 h2 (pow_not_big (by omega)), Nat.mul_zero, Nat.add_zero]
      · have e1 : v * k = (v + v) * (k / 2) := by
          have : k = 2 * (k / 2) := by omega
          rw [this, show 2 * (k / 2) / 2 = k / 2 from by omega, ← Nat.mul_assoc, Nat.mul_comm v 2, Nat.two_mul]
        have e2 : v + v ≤ (v + v) * (k / 2) := Nat.le_mul_of_pos_right _ (by omega)
        rw [powI_even_go h1 h2 (pow_not_big (by omega)) (by rw [pow_mul_pow]; exact pow_not_big (by omega)), pow_mul_pow, ih (k / 2) (by omega) u (v + v) (by omega) (by omega), show u + (v + v) * (k / 2) = u + v * k from by omega]
theorem powI_two1 (k : Nat) (h : k ≤ 1000) : powI k 1 2 = some ((2 ^ k : Nat) : Int) := by
  have h2 := powI_two k 0 1 (by omega) (by decide)
  rw [Nat.zero_add, Nat.one_mul] at h2
  exact h2
theorem prod_not_big {z : Int} {k : Nat} (h : z.natAbs < 9007199254740992) (hk : k ≤ 1000) : ¬ BigI (z * ((2 ^ k : Nat) : Int)) := by
  intro hb
  unfold BigI at hb
  rw [Int.natAbs_mul, Int.natAbs_natCast] at hb
  have h1 : z.natAbs * 2 ^ k ≤ 2 ^ (53 + k) := by
    rw [Nat.pow_add]
    exact Nat.mul_le_mul_right _ (by omega)
  have h2 := BIG.mono hb h1
  have h3 := pow_not_big (t := 53 + k) (by omega)
  unfold BigI at h3
  rw [Int.natAbs_natCast] at h3
  exact h3 h2

set_option maxRecDepth 100000 in
set_option maxHeartbeats 2000000 in
theorem floexact_raw (b G : Nat) (len zi : Int) (k : Nat) (w : World) (hb : b < 18446744073709551616) (hi : (FloatKind.f64.format.order (b % 9223372036854775808) 9218868437227405311 == some .gt) = false)
    (hT : ∀ W, Calls Tryz.prog 82 #[.float .f64 b] W fun e w' => e = .returned (.float .f64 b) ∧ W = w') (o1 : (FloatKind.f64.format.order b b != some .eq) = false)
    (hF : ∀ W, Calls Tryz.prog 83 #[.float .f64 b] W fun e w' => (∃ fr, e = .returned (.tuple #[.float .f64 fr, .int .i64 len])) ∧ ∃ k, w' = W.drewN k)
    (hlen : -2000 ≤ len ∧ len ≤ 2000) (hmx : max 0 (len - 53) = (k : Int)) (hk : k ≤ 971)
    (hL : ∀ W, Calls Tryz.prog 85 #[.float .f64 b, .int .i64 (-(k : Int))] W fun e w' => e = .returned (.float .f64 G) ∧ ∃ k, w' = W.drewN k)
    (hcv : floatToIntVal .f64 G .i64 = some zi) (hz : zi.natAbs < 9007199254740992) :
    Calls Tryz.prog 39 #[.float .f64 b] w (RetE w (zi * ((2 ^ k : Nat) : Int))) := by
  have I1 := Lib.hid fun W => isInf_any b W false hb hi
  have T1 := Lib.hid hT
  have F1 := Lib.hid hF
  have L1 := Lib.hid hL
  have hc : ∀ W, (convert 24 3 (.float .f64 G)).run Tryz.prog W = .ok (.int .i64 zi) W := fun W =>
    run_convert_float_int W 24 3 .f64 .i64 G zi (by rw [Tryz.underlying24]; rfl) Tryz.underlying3 hcv
  have E1 := Lib.hid (eof_int zi (by omega) (by omega))
  have E2 := Lib.hid (eof_int 2 (by decide) (by decide))
  have E3 := Lib.hid (eof_int (k : Int) (by omega) (by omega))
  have HZB := Lib.hid (show ¬ BigI zi from small_not_big (by omega))
  have HPB := Lib.hid (pow_not_big (t := k) (by omega))
  have HPI := Lib.hid (powI_two1 k (by omega))
  obtain ⟨pw, hpw⟩ : ∃ pw : Int, ((2 ^ k : Nat) : Int) = pw := ⟨_, rfl⟩
  rw [hpw] at HPB HPI ⊢
  clear hi hT hF hL hcv hpw
  go_enter Tryz.func39, Tryz.ntmps39
  go_wp2_with (fail)
  refine (I1.out _).mono ?_
  rintro e w' ⟨rfl, rfl⟩
  go_wp2_with (fail)
  refine (T1.out _).mono ?_
  rintro e w' ⟨rfl, rfl⟩
  go_wp2_with (fail)
  refine (F1.out _).mono ?_
  rintro e w' ⟨⟨fr, rfl⟩, k1, rfl⟩
  go_wp2_with (fail)
  refine (L1.out _).mono ?_
  rintro e w' ⟨rfl, k2, rfl⟩
  have XR0 : Hid (Bx ((w.alloc (.cells #[.bool false, .slice none 0 0] 36)).drewN (k1 + k2)) w.heap.size false none 0 0) := Lib.hid (Bx.new w false none 0 0)
  have HW0 : Hid (Below w.heap.size w ((w.alloc (.cells #[.bool false, .slice none 0 0] 36)).drewN (k1 + k2))) := Lib.hid (below_drewN ((Below.refl _ w).alloc (Nat.le_refl _) _) _)
  go_wp2_with (fail)
  refine (E1.out _).mono ?_
  intro e w1 hr
  obtain ⟨s1, A1, n1, c1, rfl, hv1, hb1⟩ := hr.gen
  have XR1 := Lib.hid ((XR0.out.below hb1).alloc (.cells #[.bool s1, .slice A1 n1 c1] 36))
  have HV1 := Lib.hid hv1
  have HB1 := Lib.hid (bel_trans (B := w.heap.size) HW0.out hb1)
  clear hr hv1 hb1
  go_wp2_with (fail)
  have X1 := Lib.hid (Bx.new w1 s1 A1 n1 c1)
  have V1 := Lib.hid (HV1.out.alloc (.cells #[.bool s1, .slice A1 n1 c1] 36))
  have hbk := HB1.out
  have HB1b : Hid (Below w.heap.size w (w1.alloc (.cells #[.bool s1, .slice A1 n1 c1] 36))) := Lib.hid (hbk.alloc hbk.size _)
  clear hbk
  refine (E2.out _).mono ?_
  intro e w2 hr
  obtain ⟨s2, A2, n2, c2, rfl, hv2, hb2⟩ := hr.gen
  have XR2 := Lib.hid (XR1.out.below hb2)
  have X2 := Lib.hid (X1.out.below hb2)
  have V12 := Lib.hid (V1.out.keep hb2)
  have HV2 := Lib.hid hv2
  have HB2 := Lib.hid (bel_trans (B := w.heap.size) HB1b.out hb2)
  clear hr hv2 hb2
  go_wp2_with (fail)
  refine (E3.out _).mono ?_
  intro e w3 hr
  obtain ⟨s3, A3, n3, c3, rfl, hv3, hb3⟩ := hr.gen
  have XR3 := Lib.hid (XR2.out.below hb3)
  have X3 := Lib.hid (X2.out.below hb3)
  have V13 := Lib.hid (V12.out.keep hb3)
  have HP := Lib.hid (epow_go s2 s3 A2 A3 n2 c2 n3 c3 2 k w3 (HV2.out.keep hb3) hv3 (small_not_big (by decide)) (by omega))
  have HB3 := Lib.hid (bel_trans (B := w.heap.size) HB2.out hb3)
  clear hr hv3 hb3
  go_wp2_with (fail)
  refine HP.out.mono ?_
  rintro e w4 ⟨s4, A4, n4, c4, er, rfl, hcase, hb4⟩
  rw [HPI.out] at hcase
  obtain ⟨rfl, hv4⟩ : er = 0 ∧ IntV w4 (.agg #[.bool s4, .slice A4 n4 c4]) pw := by
    rcases hcase with ⟨h, _⟩ | ⟨z, h, h1, h2⟩
    · cases h
    · injection h with h
      subst h
      exact ⟨h1, h2⟩
  have XR4 := Lib.hid (XR3.out.below hb4)
  have X4 := Lib.hid (X3.out.below hb4)
  have V14 := Lib.hid (V13.out.keep hb4)
  have HV4 := Lib.hid hv4
  have HB4 := Lib.hid (bel_trans (B := w.heap.size) HB3.out hb4)
  clear hcase hv4 hb4
  have XR5 := Lib.hid (XR4.out.alloc (.cells #[.bool s4, .slice A4 n4 c4] 36))
  have X5 := Lib.hid (X4.out.alloc (.cells #[.bool s4, .slice A4 n4 c4] 36))
  have Y5 := Lib.hid (Bx.new w4 s4 A4 n4 c4)
  have V15 := Lib.hid (V14.out.alloc (.cells #[.bool s4, .slice A4 n4 c4] 36))
  have V45 := Lib.hid (HV4.out.alloc (.cells #[.bool s4, .slice A4 n4 c4] 36))
  have HB5 : Hid (Below w.heap.size w (w4.alloc (.cells #[.bool s4, .slice A4 n4 c4] 36))) := Lib.hid (HB4.out.alloc HB4.out.size _)
  have HM := Lib.hid (emul_int V15.out V45.out HZB.out HPB.out)
  obtain ⟨q0, q1, -, -, ql⟩ := X4.out.facts
  go_wp2_with (fail)
  refine HM.out.mono ?_
  rintro e w6 ⟨s6, A6, n6, c6, er, rfl, hcase, hb6⟩
  have XR6 := Lib.hid (XR5.out.below hb6)
  have HB6 := Lib.hid (bel_trans (B := w.heap.size) HB5.out hb6)
  have HC6 := Lib.hid hcase
  obtain ⟨W, hW, ZR, hbW, hvW, -, -, -⟩ := stored_world XR6.out HB6.out (Nat.le_refl _) s6 A6 n6 c6
  obtain ⟨z0, z1, -, -, zl⟩ := ZR.facts
  obtain ⟨x0, x1, x2, x3, xl⟩ := XR6.out.facts
  have HBW := Lib.hid hbW
  have HVW := Lib.hid hvW
  clear hcase hb6 q0 q1 ql hbW hvW
  go_wp2_with (fail)
  first | rw [hW] | skip
  refine bodyPost_ret (v := .tuple #[.agg #[.bool s6, .slice A6 n6 c6], .int .i64 er]) (by simp [results, Tryz.results39, go_sem, z0, z1]) rfl ?_
  refine ⟨s6, A6, n6, c6, er, rfl, ?_, HBW.out⟩
  rcases HC6.out with ⟨a1, a2, a3⟩ | ⟨a1, a2, a3⟩
  · exact .inl ⟨a1, a2, HVW.out _ _ a3⟩
  · exact .inr ⟨a1, a2, HVW.out _ _ a3⟩

end LM
end Go.Proofs.YtpnjddfnlaonoaaGreatDoor

namespace Go.Proofs.YtpnjddfnlaonoaaGreatDoor
open Go Go.RowKit
namespace LM
set_option linter.unusedVariables false

end LM
end Go.Proofs.YtpnjddfnlaonoaaGreatDoor
