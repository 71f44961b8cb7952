/- The walk of the statement FloNames. -/
import Derived.Test.YtpaefbojilnnnaaGreatDoorJ22
import Derived.Test.YtpaefbojilnnnaaGreatDoorJ32
import Derived.Test.YtpaefbojilnnnaaGreatDoorJ35
import Derived.Test.YtpaefbojilnnnaaGreatDoorJ18
namespace Go.Proofs.YtpaefbojilnnnaaGreatDoor
open Go Go.RowKit
namespace LM
set_option linter.unusedVariables false

set_option maxRecDepth 100000 in
set_option maxHeartbeats 4000000 in
theorem falive_any (w : World) (hv : FV w) :
    Calls Tryz.prog 13 #[] w fun e w' => e = .returned (.bool true) ∧ Below w.heap.size w w' := by
  have P1 := Lib.hid (floparse_15 w hv)
  have HV := Lib.hid hv
  have E1 := Lib.hid floexact_150
  have T1 := Lib.hid text_100
  have T2 := Lib.hid text_e21
  have T3 := Lib.hid text_m4
  have R1 := Lib.hid rtext_150
  have O1 := Lib.hid floof_150
  have o1 : (FloatKind.f64.format.order M150 M150 == some .eq) = true := by decide
  have c1 : ((⟨#[49, 48, 48, 46, 48]⟩ : ByteArray).toList == [49, 48, 48, 46, 48]) = true := by rw [Go.ByteArray.toList_eq]; rfl
  have c2 : ((⟨#[49, 46, 48, 101, 50, 49]⟩ : ByteArray).toList == [49, 46, 48, 101, 50, 49]) = true := by rw [Go.ByteArray.toList_eq]; rfl
  have c3 : ((⟨#[49, 46, 48, 101, 45, 52]⟩ : ByteArray).toList == [49, 46, 48, 101, 45, 52]) = true := by rw [Go.ByteArray.toList_eq]; rfl
  have c4 : ((⟨#[45, 49, 53, 48]⟩ : ByteArray).toList == [45, 49, 53, 48]) = true := by rw [Go.ByteArray.toList_eq]; rfl
  clear hv
  go_enter Tryz.func13, Tryz.ntmps13
  go_wp2_with (fail)
  refine P1.out.mono ?_
  rintro e w1 ⟨rfl, hb1⟩
  have HB1 := Lib.hid hb1
  clear hb1
  go_wp2_with (fail)
  refine (E1.out _).mono ?_
  rintro e w2 ⟨s2, A2, n2, c2', er, rfl, hcase, hb2⟩
  obtain ⟨rfl, hv2⟩ : er = 0 ∧ IntV w2 (.agg #[.bool s2, .slice A2 n2 c2']) (-150) := by
    rcases hcase with ⟨h, _⟩ | ⟨_, h1, h2⟩
    · exact absurd h (small_not_big (by decide))
    · exact ⟨h1, h2⟩
  have HV2 := Lib.hid hv2
  have HB2 := Lib.hid (HB1.out.trans (hb2.mono HB1.out.size))
  clear hcase hv2 hb2
  have X2 := Lib.hid (Bx.new w2 s2 A2 n2 c2')
  have V2 := Lib.hid (HV2.out.alloc (.cells #[.bool s2, .slice A2 n2 c2'] 38))
  have HB3 : Hid (Below w.heap.size w (w2.alloc (.cells #[.bool s2, .slice A2 n2 c2'] 38))) := Lib.hid (HB2.out.alloc HB2.out.size _)
  go_wp2_with (fail)
  refine (T1.out _ (HV.out.below HB3.out)).mono ?_
  rintro e w4 ⟨rfl, hb4⟩
  have X4 := Lib.hid (X2.out.below hb4)
  have V4 := Lib.hid (V2.out.keep hb4)
  have HB4 := Lib.hid (bel_trans (B := w.heap.size) HB3.out hb4)
  clear hb4
  go_wp2_with (fail)
  refine (T2.out _ (HV.out.below HB4.out)).mono ?_
  rintro e w5 ⟨rfl, hb5⟩
  have X5 := Lib.hid (X4.out.below hb5)
  have V5 := Lib.hid (V4.out.keep hb5)
  have HB5 := Lib.hid (bel_trans (B := w.heap.size) HB4.out hb5)
  clear hb5
  go_wp2_with (fail)
  refine (T3.out _ (HV.out.below HB5.out)).mono ?_
  rintro e w6 ⟨rfl, hb6⟩
  have X6 := Lib.hid (X5.out.below hb6)
  have V6 := Lib.hid (V5.out.keep hb6)
  have HB6 := Lib.hid (bel_trans (B := w.heap.size) HB5.out hb6)
  clear hb6
  obtain ⟨q0, q1, -, -, ql⟩ := X6.out.facts
  go_wp2_with (fail)
  refine (R1.out _ _ V6.out).mono ?_
  rintro e w7 ⟨rfl, hb7⟩
  have X7 := Lib.hid (X6.out.below hb7)
  have V7 := Lib.hid (V6.out.keep hb7)
  have HB7 := Lib.hid (bel_trans (B := w.heap.size) HB6.out hb7)
  clear hb7 q0 q1 ql
  obtain ⟨q0, q1, -, -, ql⟩ := X7.out.facts
  go_wp2_with (fail)
  refine (O1.out _ _ V7.out).mono ?_
  rintro e w8 ⟨rfl, hb8⟩
  have HB8 := Lib.hid (bel_trans (B := w.heap.size) HB7.out hb8)
  clear hb8 q0 q1 ql
  go_wp2
  go_ret
  exact ⟨rfl, HB8.out⟩

end LM
end Go.Proofs.YtpaefbojilnnnaaGreatDoor

namespace Go.Proofs.YtpaefbojilnnnaaGreatDoor
open Go Go.Shelf Go.RowKit Go.Sort Go.Lib
namespace LM
set_option linter.unusedVariables false

set_option maxRecDepth 100000 in
set_option maxHeartbeats 4000000 in
theorem ftoaF_mzero (b B : Nat) (W0 : World) (v : Value) (w : World) (hbe : b = 9223372036854775808) (hob : OB B W0 0 [] v [] w) :
    Calls Tryz.prog 189 #[v, .float .f64 b, .int .u8 102, .int .i64 (-1)] w fun r w' =>
      ∃ v' g ds, r = .returned v' ∧ OB B W0 g ds v' (fmtF true [] 0) w' := by
  obtain ⟨bq, hbq⟩ : ∃ q, b / 4503599627370496 = q := ⟨_, rfl⟩
  have hbqi : (b : Int) / 4503599627370496 = (bq : Int) := by omega
  have hbql : bq < 4096 := by omega
  have hex2 : bits .and .i64 (bq : Int) 2047 = 0 := by
    have h := i64_and_nat bq 2047 (by omega) (by decide)
    have h2 : bq &&& 2047 = 0 := by rw [nat_mask11]; omega
    rw [h2] at h
    exact h
  have hfr2 : bits .and .u64 (b : Int) 4503599627370495 = 0 := by
    have h := u64_and_nat b 4503599627370495 (by omega) (by decide)
    have h2 : b &&& 4503599627370495 = 0 := by
      rw [show b &&& 4503599627370495 = b % 2 ^ 52 from Nat.and_two_pow_sub_one_eq_mod b 52]
      omega
    rw [h2] at h
    exact h
  have hneg2 : ((b : Int) / 9223372036854775808 != 0) = true := by
    rw [bne_iff_ne]; omega
  have RB := run_sbits b
  have FZ := Lib.hid fun k => fmtF_zero B W0 v [] (w.drewN k) true 0 (hob.drewN k) (by decide)
  clear hbe hbq hob
  go_enter Tryz.func189, Tryz.ntmps189
  go_wp2_with (fail)
  go_quiet (fail)
  go_wp2_with (fail)
  refine (FZ.out _).mono ?_
  rintro r w4 ⟨v4, rfl, hob4⟩
  go_wp2
  go_ret
  exact ⟨_, _, _, rfl, hob4⟩

set_option maxRecDepth 100000 in
set_option maxHeartbeats 2000000 in
theorem flotext_mzero (w : World) :
    Calls Tryz.prog 14 #[.float .f64 9223372036854775808] w fun e w' => e = .returned (.string ⟨#[45, 48, 46, 48]⟩) ∧ Below w.heap.size w w' := by
  have h := flotext_f 9223372036854775808 0 (fmtF true [] 0) w (by decide) (by decide) (by unfold nanW; decide) (by decide +kernel) (by decide +kernel) (.inl (by decide +kernel)) (by decide +kernel) (by decide +kernel)
    (fun v w1 hob => ftoaF_mzero _ _ _ v w1 rfl hob)
  have e : (⟨(pointB (fmtF true [] 0)).toArray⟩ : ByteArray) = ⟨#[45, 48, 46, 48]⟩ := by decide +kernel
  rw [e] at h
  exact h

set_option maxHeartbeats 1000000 in
theorem nan_any (w : World) : Calls Tryz.prog 15 #[] w fun e w' => e = .returned (.float .f64 9221120237041090561) ∧ w = w' := by
  have f1 : ∀ W, (callFunc 18 #[.int .u64 9221120237041090561]).run Tryz.prog W = .ok (.value (.float .f64 9221120237041090561)) W := fun W => run_mfrom 9221120237041090561 W
  go_enter Tryz.func15, Tryz.ntmps15
  go_wp2
  go_ret
  exact ⟨rfl, rfl⟩
set_option maxHeartbeats 1000000 in
theorem minf_any (w : World) : Calls Tryz.prog 16 #[.int .i64 (-1)] w fun e w' => e = .returned (.float .f64 18442240474082181120) ∧ w = w' := by
  have f1 : ∀ W, (callFunc 18 #[.int .u64 18442240474082181120]).run Tryz.prog W = .ok (.value (.float .f64 18442240474082181120)) W := fun W => run_mfrom 18442240474082181120 W
  go_enter Tryz.func16, Tryz.ntmps16
  go_wp2
  go_ret
  exact ⟨rfl, rfl⟩
set_option maxRecDepth 100000 in
set_option maxHeartbeats 1000000 in
theorem copysign_m (w : World) : Calls Tryz.prog 12 #[.float .f64 0, .float .f64 13830554455654793216] w fun e w' => e = .returned (.float .f64 9223372036854775808) ∧ w = w' := by
  have f1 : ∀ W, (callFunc 18 #[.int .u64 9223372036854775808]).run Tryz.prog W = .ok (.value (.float .f64 9223372036854775808)) W := fun W => run_mfrom 9223372036854775808 W
  have f2 : ∀ W, (callFunc 53 #[.float .f64 0]).run Tryz.prog W = .ok (.value (.int .u64 0)) W := fun W => run_mbits 0 W
  have f3 : ∀ W, (callFunc 53 #[.float .f64 13830554455654793216]).run Tryz.prog W = .ok (.value (.int .u64 13830554455654793216)) W := fun W => run_mbits 13830554455654793216 W
  have c1 : bits .andNot .u64 0 9223372036854775808 = 0 := by decide
  have c2 : bits .and .u64 13830554455654793216 9223372036854775808 = 9223372036854775808 := by decide
  have c3 : bits .or .u64 0 9223372036854775808 = 9223372036854775808 := by decide
  go_enter Tryz.func12, Tryz.ntmps12
  go_wp2
  go_ret
  exact ⟨rfl, rfl⟩

end LM
end Go.Proofs.YtpaefbojilnnnaaGreatDoor

namespace Go.Proofs.YtpaefbojilnnnaaGreatDoor
open Go Go.RowKit
namespace LM
set_option linter.unusedVariables false

set_option maxRecDepth 100000 in
set_option maxHeartbeats 4000000 in
theorem names_flo (w : World) (hv : FV w) :
    Calls Tryz.prog 3 #[] w fun e w' => e = .returned (.bool true) ∧ Below w.heap.size w w' := by
  have P1 := Lib.hid (floparse_12 w)
  have C1 := Lib.hid copysign_m
  have N1 := Lib.hid nan_any
  have I1 := Lib.hid minf_any
  have AL := Lib.hid falive_any
  have HV := Lib.hid hv
  have T1 := Lib.hid fun W => flotext_nan 9221120237041090561 W (by decide) (by unfold nanW; decide)
  have T2 := Lib.hid flotext_minf
  have T3 := Lib.hid flotext_mzero
  have S1 := Lib.hid fun W => same_flo 0 9223372036854775808 W (by decide) (by decide)
  have S2 := Lib.hid fun W => same_flo 9221120237041090561 18444492273895866369 W (by decide) (by decide)
  rw [show (canW 0 == canW 9223372036854775808) = false by decide] at S1
  rw [show (canW 9221120237041090561 == canW 18444492273895866369) = true by decide] at S2
  have c1 : ((⟨#[43, 110, 97, 110, 46, 48]⟩ : ByteArray).toList == [43, 110, 97, 110, 46, 48]) = true := by rw [Go.ByteArray.toList_eq]; rfl
  have c2 : ((⟨#[45, 105, 110, 102, 46, 48]⟩ : ByteArray).toList == [45, 105, 110, 102, 46, 48]) = true := by rw [Go.ByteArray.toList_eq]; rfl
  have c3 : ((⟨#[45, 48, 46, 48]⟩ : ByteArray).toList == [45, 48, 46, 48]) = true := by rw [Go.ByteArray.toList_eq]; rfl
  have n1 : ∀ W, (Op.unary .neg (.float .f64 9221120237041090561)).run Tryz.prog W = .ok (.float .f64 18444492273895866369) W := fun W => rfl
  clear hv
  go_enter Tryz.func3, Tryz.ntmps3
  go_wp2_with (fail)
  refine P1.out.mono ?_
  rintro e w1 ⟨rfl, hb1⟩
  have HB1 := Lib.hid hb1
  clear hb1
  go_wp2_with (fail)
  refine (C1.out _).mono ?_
  rintro e w' ⟨rfl, rfl⟩
  go_wp2_with (fail)
  refine (AL.out _ (HV.out.below HB1.out)).mono ?_
  rintro e w2 ⟨rfl, hb2⟩
  have HB2 := Lib.hid (bel_trans (B := w.heap.size) HB1.out hb2)
  clear hb2
  go_wp2_with (fail)
  refine (N1.out _).mono ?_
  rintro e w' ⟨rfl, rfl⟩
  go_wp2_with (fail)
  refine (T1.out _).mono ?_
  rintro e w' ⟨rfl, rfl⟩
  go_wp2_with (fail)
  refine (I1.out _).mono ?_
  rintro e w' ⟨rfl, rfl⟩
  go_wp2_with (fail)
  refine (T2.out _).mono ?_
  rintro e w' ⟨rfl, rfl⟩
  go_wp2_with (fail)
  refine (T3.out _).mono ?_
  rintro e w3 ⟨rfl, hb3⟩
  have HB3 := Lib.hid (bel_trans (B := w.heap.size) HB2.out hb3)
  clear hb3
  go_wp2_with (fail)
  refine (S1.out _).mono ?_
  rintro e w' ⟨rfl, rfl⟩
  go_wp2_with (fail)
  refine (N1.out _).mono ?_
  rintro e w' ⟨rfl, rfl⟩
  go_wp2_with (fail)
  refine (N1.out _).mono ?_
  rintro e w' ⟨rfl, rfl⟩
  go_wp2_with (fail)
  refine (S2.out _).mono ?_
  rintro e w' ⟨rfl, rfl⟩
  go_wp2
  go_ret
  exact ⟨rfl, HB3.out⟩

end LM
end Go.Proofs.YtpaefbojilnnnaaGreatDoor
