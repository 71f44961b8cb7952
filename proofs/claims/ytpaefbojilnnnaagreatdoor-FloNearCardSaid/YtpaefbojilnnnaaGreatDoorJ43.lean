/- Walks of package math by numbers: Frexp, Ldexp, Floor, Trunc of any number that is normal, or whole. -/
import Derived.Test.YtpaefbojilnnnaaGreatDoorJ18
import Derived.Test.YtpaefbojilnnnaaGreatDoorJ42
namespace Go.Proofs.YtpaefbojilnnnaaGreatDoor
open Go Go.RowKit
namespace LM
set_option linter.unusedVariables false

set_option maxRecDepth 100000 in
set_option maxHeartbeats 2000000 in
theorem frexp_raw (b ex f2 y : Nat) (w : World) (hb : b < 18446744073709551616) (o1 : (FloatKind.f64.format.order b 0 == some .eq) = false) (hi : (FloatKind.f64.format.order (b % 9223372036854775808) 9218868437227405311 == some .gt) = false) (hn : ¬ nanW b) (h4 : (FloatKind.f64.format.order (b % 9223372036854775808) 4503599627370496 == some .lt) = false)
    (hex : b / 4503599627370496 % 2048 = ex) (he1 : 1 ≤ ex) (he2 : ex ≤ 2046) (b2 : bits .andNot .u64 (b : Int) 9218868437227405312 = (f2 : Int)) (b3 : bits .or .u64 (f2 : Int) 4602678819172646912 = (y : Int)) :
    Calls Tryz.prog 136 #[.float .f64 b] w fun e w' => e = .returned (.tuple #[.float .f64 y, .int .i64 ((ex : Int) - 1022)]) ∧ ∃ k, w' = w.drewN k := by
  have I1 := Lib.hid fun W => isInf_any b W false hb hi
  have N1 := Lib.hid fun W => isNaN_any b W hb
  have M1 := Lib.hid fun W => normalize_any b W hb h4
  rw [show decide (nanW b) = false from decide_eq_false hn] at N1
  have h1 := run_mbits b
  have h2 := run_mfrom y
  obtain ⟨bq, hbq⟩ : ∃ q, b / 4503599627370496 = q := ⟨_, rfl⟩
  have hbqi : (b : Int) / 4503599627370496 = (bq : Int) := by omega
  have hbql : bq < 4096 := by omega
  have b1 : bits .and .u64 (bq : Int) 2047 = (ex : Int) := by
    have h := u64_and_nat bq 2047 (by omega) (by decide)
    have h2 : bq &&& 2047 = ex := by rw [nat_mask11, ← hbq, hex]
    rw [h2] at h
    exact h
  have hq0 : (ex : Int) - 1023 + 1 = (ex : Int) - 1022 := by omega
  have hq1 : (ex : Int) + -1023 + 1 = (ex : Int) - 1022 := by omega
  clear hbq hex hi hn h4
  go_enter Tryz.func136, Tryz.ntmps136
  go_wp2_with (fail)
  refine (I1.out _).mono ?_
  rintro e w' ⟨rfl, rfl⟩
  go_wp2_with (fail)
  refine (N1.out _).mono ?_
  rintro e w' ⟨rfl, rfl⟩
  go_wp2_with (fail)
  refine (M1.out _).mono ?_
  rintro e w' ⟨rfl, rfl⟩
  go_wp2_with (fail)
  go_ret2
  exact ⟨rfl, 0, rfl⟩

set_option maxRecDepth 100000 in
set_option maxHeartbeats 2000000 in
theorem mfrexp_raw (b y : Nat) (x : Int) (w : World) (h : Calls Tryz.prog 136 #[.float .f64 b] w fun e w' => e = .returned (.tuple #[.float .f64 y, .int .i64 x]) ∧ ∃ k, w' = w.drewN k) :
    Calls Tryz.prog 71 #[.float .f64 b] w fun e w' => e = .returned (.tuple #[.float .f64 y, .int .i64 x]) ∧ ∃ k, w' = w.drewN k := by
  have F1 := Lib.hid h
  clear h
  go_enter Tryz.func71, Tryz.ntmps71
  go_wp2_with (fail)
  refine F1.out.mono ?_
  rintro e w' ⟨rfl, k, rfl⟩
  go_wp2
  go_ret2
  exact ⟨rfl, k, rfl⟩

/-- at nought -/
theorem frexp_nought (b : Nat) (w : World) (o1 : (FloatKind.f64.format.order b 0 == some .eq) = true) :
    Calls Tryz.prog 136 #[.float .f64 b] w fun e w' => e = .returned (.tuple #[.float .f64 b, .int .i64 0]) ∧ ∃ k, w' = w.drewN k := by
  go_enter Tryz.func136, Tryz.ntmps136
  go_wp2_with (fail)
  go_ret2
  exact ⟨rfl, 0, rfl⟩

set_option maxRecDepth 100000 in
set_option maxHeartbeats 2000000 in
/-- a number times 2 to the power of x: where both are normal -/
theorem ldexp_raw (b ex f2 ex2 y : Nat) (x : Int) (w : World) (hb : b < 18446744073709551616) (o1 : (FloatKind.f64.format.order b 0 == some .eq) = false) (hi : (FloatKind.f64.format.order (b % 9223372036854775808) 9218868437227405311 == some .gt) = false) (hn : ¬ nanW b) (h4 : (FloatKind.f64.format.order (b % 9223372036854775808) 4503599627370496 == some .lt) = false)
    (hex : b / 4503599627370496 % 2048 = ex) (he1 : 1 ≤ ex) (he2 : ex ≤ 2046) (hx2 : x + ((ex : Int) - 1023) = (ex2 : Int) - 1023) (he3 : 1 ≤ ex2) (he4 : ex2 ≤ 2046)
    (b2 : bits .andNot .u64 (b : Int) 9218868437227405312 = (f2 : Int)) (b3 : bits .or .u64 (f2 : Int) ((ex2 * 4503599627370496 : Nat) : Int) = (y : Int)) (hm : floatBits .mul .f64 4607182418800017408 y = some y) :
    Calls Tryz.prog 140 #[.float .f64 b, .int .i64 x] w fun e w' => e = .returned (.float .f64 y) ∧ ∃ k, w' = w.drewN k := by
  have I1 := Lib.hid fun W => isInf_any b W false hb hi
  have N1 := Lib.hid fun W => isNaN_any b W hb
  have M1 := Lib.hid fun W => normalize_any b W hb h4
  rw [show decide (nanW b) = false from decide_eq_false hn] at N1
  have h1 := run_mbits b
  have h2 := run_mfrom y
  have hop : ∀ t W, (binOp .mul t (.float .f64 4607182418800017408) (.float .f64 y)).run Tryz.prog W = .ok (.float .f64 y) W := fun t W => run_float_arith W .mul t .f64 _ _ _ hm
  obtain ⟨bq, hbq⟩ : ∃ q, b / 4503599627370496 = q := ⟨_, rfl⟩
  have hbqi : (b : Int) / 4503599627370496 = (bq : Int) := by omega
  have hbql : bq < 4096 := by omega
  have b1 : bits .and .i64 (bq : Int) 2047 = (ex : Int) := by
    have h := i64_and_nat bq 2047 (by omega) (by decide)
    have h2 : bq &&& 2047 = ex := by rw [nat_mask11, ← hbq, hex]
    rw [h2] at h
    exact h
  obtain ⟨sh, hsh⟩ : ∃ sh, ex2 * 4503599627370496 = sh := ⟨_, rfl⟩
  have hshl : sh < 18446744073709551616 := by omega
  have hshi : (ex2 : Int) * 4503599627370496 = (sh : Int) := by omega
  obtain ⟨z, hz⟩ : ∃ z : Int, x + ((ex : Int) - 1023) = z := ⟨_, rfl⟩
  have hz2 : x + (ex : Int) - 1023 = z := by omega
  have hzl : z < 1024 := by omega
  have hzg : -1023 < z := by omega
  have hz3 : z + 1023 = (ex2 : Int) := by omega
  have hxb : -3100 < x := by omega
  have hxc : x < 3100 := by omega
  rw [hsh] at b3
  clear hbq hex hm hi hn h4 hsh hx2
  go_enter Tryz.func140, Tryz.ntmps140
  go_wp2_with (fail)
  refine (I1.out _).mono ?_
  rintro e w' ⟨rfl, rfl⟩
  go_wp2_with (fail)
  refine (N1.out _).mono ?_
  rintro e w' ⟨rfl, rfl⟩
  go_wp2_with (fail)
  refine (M1.out _).mono ?_
  rintro e w' ⟨rfl, rfl⟩
  go_wp2_with (fail)
  go_ret
  exact ⟨rfl, 0, rfl⟩

set_option maxRecDepth 100000 in
set_option maxHeartbeats 2000000 in
theorem mldexp_raw (b y : Nat) (x : Int) (w : World) (h : Calls Tryz.prog 140 #[.float .f64 b, .int .i64 x] w fun e w' => e = .returned (.float .f64 y) ∧ ∃ k, w' = w.drewN k) :
    Calls Tryz.prog 73 #[.float .f64 b, .int .i64 x] w fun e w' => e = .returned (.float .f64 y) ∧ ∃ k, w' = w.drewN k := by
  have L1 := Lib.hid h
  clear h
  go_enter Tryz.func73, Tryz.ntmps73
  go_wp2_with (fail)
  refine L1.out.mono ?_
  rintro e w' ⟨rfl, k, rfl⟩
  go_wp2
  go_ret
  exact ⟨rfl, k, rfl⟩
theorem ldexp_nought (b : Nat) (x : Int) (w : World) (o1 : (FloatKind.f64.format.order b 0 == some .eq) = true) :
    Calls Tryz.prog 140 #[.float .f64 b, .int .i64 x] w fun e w' => e = .returned (.float .f64 b) ∧ ∃ k, w' = w.drewN k := by
  go_enter Tryz.func140, Tryz.ntmps140
  go_wp2_with (fail)
  go_ret
  exact ⟨rfl, 0, rfl⟩

end LM
end Go.Proofs.YtpaefbojilnnnaaGreatDoor

namespace Go.Proofs.YtpaefbojilnnnaaGreatDoor
open Go Go.RowKit
namespace LM
set_option linter.unusedVariables false

theorem word_y (s : Bool) (m : Nat) (e : Int) (h1 : 4503599627370496 ≤ m) (h2 : m < 9007199254740992) (h3 : -1074 ≤ e) :
    (if s then 1 else 0) * 9223372036854775808 + (e + 1075).toNat * 4503599627370496 + (m - 4503599627370496) = wordF s m e := by
  unfold wordF
  obtain ⟨k, hk⟩ : ∃ k : Nat, e = k - 1074 := ⟨(e + 1074).toNat, by omega⟩
  subst hk
  rw [show ((k : Int) - 1074 + 1074).toNat = k from by omega, show ((k : Int) - 1074 + 1075).toNat = k + 1 from by omega]
  cases s <;> simp <;> omega

theorem frexp_can {s : Bool} {m : Nat} {e : Int} (h : CanF m e) (hn : 4503599627370496 ≤ m) (w : World) :
    Calls Tryz.prog 71 #[.float .f64 (wordF s m e)] w fun r w' => (∃ y, r = .returned (.tuple #[.float .f64 y, .int .i64 (e + 53)])) ∧ ∃ k, w' = w.drewN k := by
  obtain ⟨p1, p2, p3, p4⟩ := word_parts (s := s) h hn
  obtain ⟨h1, h2, h3, -⟩ := h
  have hc := exp_clear (wordF s m e) p1
  rw [p3, p4] at hc
  have hs := exp_set (if s then 1 else 0) (m - 4503599627370496) 1022 (by split <;> omega) (by omega) (by decide)
  have hf := frexp_raw (wordF s m e) (e + 1075).toNat _ _ w p1 ((canf_zero ⟨h1, h2, h3, .inl hn⟩).trans (decide_eq_false (by omega))) (can_inf ⟨h1, h2, h3, .inl hn⟩) (can_nan ⟨h1, h2, h3, .inl hn⟩) (can_norm ⟨h1, h2, h3, .inl hn⟩ hn) p2 (by omega) (by omega) hc hs
  rw [show (((e + 1075).toNat : Nat) : Int) - 1022 = e + 53 from by omega] at hf
  refine (mfrexp_raw _ _ _ w hf).mono ?_
  rintro r w' ⟨rfl, hk⟩
  exact ⟨⟨_, rfl⟩, hk⟩

theorem mul_bits {x y r : Nat} (h : Ieee.double.mul x y = some r) : floatBits .mul .f64 x y = some r := h

theorem ldexp_can {s : Bool} {m : Nat} {e : Int} (h : CanF m e) (hn : 4503599627370496 ≤ m) (x : Int) (hx1 : -1074 ≤ e + x) (hx2 : e + x ≤ 971) (w : World) :
    Calls Tryz.prog 73 #[.float .f64 (wordF s m e), .int .i64 x] w fun r w' => r = .returned (.float .f64 (wordF s m (e + x))) ∧ ∃ k, w' = w.drewN k := by
  obtain ⟨p1, p2, p3, p4⟩ := word_parts (s := s) h hn
  obtain ⟨h1, h2, h3, -⟩ := h
  have hc := exp_clear (wordF s m e) p1
  rw [p3, p4] at hc
  have hs := exp_set (if s then 1 else 0) (m - 4503599627370496) (e + x + 1075).toNat (by split <;> omega) (by omega) (by omega)
  rw [word_y s m (e + x) hn h1 hx1] at hs
  exact mldexp_raw _ _ _ w (ldexp_raw (wordF s m e) (e + 1075).toNat _ (e + x + 1075).toNat (wordF s m (e + x)) x w p1 ((canf_zero ⟨h1, h2, h3, .inl hn⟩).trans (decide_eq_false (by omega))) (can_inf ⟨h1, h2, h3, .inl hn⟩) (can_nan ⟨h1, h2, h3, .inl hn⟩) (can_norm ⟨h1, h2, h3, .inl hn⟩ hn) p2 (by omega) (by omega) (by omega) (by omega) (by omega) hc hs (mul_bits (mul_one ⟨h1, hx1, hx2, .inl hn⟩)))

theorem frexp_zero (s : Bool) (w : World) : Calls Tryz.prog 71 #[.float .f64 (wordF s 0 (-1074))] w fun r w' => (∃ y, r = .returned (.tuple #[.float .f64 y, .int .i64 0])) ∧ ∃ k, w' = w.drewN k := by
  have hc : CanF 0 (-1074) := by unfold CanF; decide
  refine (mfrexp_raw _ _ _ w (frexp_nought _ w ((canf_zero hc).trans rfl))).mono ?_
  rintro r w' ⟨rfl, hk⟩
  exact ⟨⟨_, rfl⟩, hk⟩
theorem ldexp_zero (s : Bool) (x : Int) (w : World) : Calls Tryz.prog 73 #[.float .f64 (wordF s 0 (-1074)), .int .i64 x] w fun r w' => r = .returned (.float .f64 (wordF s 0 (-1074))) ∧ ∃ k, w' = w.drewN k := by
  have hc : CanF 0 (-1074) := by unfold CanF; decide
  exact mldexp_raw _ _ _ w (ldexp_nought _ x w ((canf_zero hc).trans rfl))

theorem run_archFloor {s : Bool} {m : Nat} {e : Int} (h : CanF m e) (W : World) : (callFunc 129 #[.float .f64 (wordF s m e)]).run Tryz.prog W = .ok (.value (.float .f64 (Ieee.double.write ((Ieee.Datum.number s m e).integral .down)))) W := by
  rw [run_callFunc_extern Tryz.func129 (by kernel_rfl) (by kernel_rfl) (e := Extern.MathFloor.toIntegral "math.archFloor" .down) (by kernel_rfl) (by kernel_rfl)]
  have h2 := toIntegral_num Tryz.prog W "math.archFloor" .down (wordF s m e) (read_word h)
  simp only [h2]
  rfl
theorem run_archTrunc {s : Bool} {m : Nat} {e : Int} (h : CanF m e) (W : World) : (callFunc 133 #[.float .f64 (wordF s m e)]).run Tryz.prog W = .ok (.value (.float .f64 (Ieee.double.write ((Ieee.Datum.number s m e).integral .zero)))) W := by
  rw [run_callFunc_extern Tryz.func133 (by kernel_rfl) (by kernel_rfl) (e := Extern.MathFloor.toIntegral "math.archTrunc" .zero) (by kernel_rfl) (by kernel_rfl)]
  have h2 := toIntegral_num Tryz.prog W "math.archTrunc" .zero (wordF s m e) (read_word h)
  simp only [h2]
  rfl

set_option maxHeartbeats 1000000 in
theorem floor_can {s : Bool} {m : Nat} {e : Int} (h : CanF m e) (w : World) : Calls Tryz.prog 66 #[.float .f64 (wordF s m e)] w fun r w' => r = .returned (.float .f64 (Ieee.double.write ((Ieee.Datum.number s m e).integral .down))) ∧ w = w' := by
  have h1 := run_archFloor (s := s) h
  generalize Ieee.double.write ((Ieee.Datum.number s m e).integral .down) = y at h1 ⊢
  generalize wordF s m e = x at h1 ⊢
  clear h
  go_enter Tryz.func66, Tryz.ntmps66
  go_wp2
  go_ret
  exact ⟨rfl, rfl⟩
set_option maxHeartbeats 1000000 in
theorem trunc_can {s : Bool} {m : Nat} {e : Int} (h : CanF m e) (w : World) : Calls Tryz.prog 70 #[.float .f64 (wordF s m e)] w fun r w' => r = .returned (.float .f64 (Ieee.double.write ((Ieee.Datum.number s m e).integral .zero))) ∧ w = w' := by
  have h1 := run_archTrunc (s := s) h
  generalize Ieee.double.write ((Ieee.Datum.number s m e).integral .zero) = y at h1 ⊢
  generalize wordF s m e = x at h1 ⊢
  clear h
  go_enter Tryz.func70, Tryz.ntmps70
  go_wp2
  go_ret
  exact ⟨rfl, rfl⟩

end LM
end Go.Proofs.YtpaefbojilnnnaaGreatDoor
