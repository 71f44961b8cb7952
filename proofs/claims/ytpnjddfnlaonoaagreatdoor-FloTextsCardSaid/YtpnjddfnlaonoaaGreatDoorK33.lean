/- Walks: the exact number of a floating one, at one number; the floating number of an exact one. -/
import Derived.Test.YtpnjddfnlaonoaaGreatDoorK20
import Derived.Test.YtpnjddfnlaonoaaGreatDoorK22
import Derived.Test.YtpnjddfnlaonoaaGreatDoorK31
import Derived.Test.YtpnjddfnlaonoaaGreatDoorK27
import Derived.Test.YtpnjddfnlaonoaaGreatDoorK28
namespace Go.Proofs.YtpnjddfnlaonoaaGreatDoor
open Go Go.RowKit
namespace LM
set_option linter.unusedVariables false

set_option maxRecDepth 100000 in
set_option maxHeartbeats 2000000 in
theorem floexact_150 (w : World) :
    Calls Tryz.prog 39 #[.float .f64 M150] w (RetE w (-150)) := by
  have I1 := Lib.hid fun W => isInf_any M150 W false (by decide) (by decide)
  have T1 := Lib.hid trunc_150
  have F1 := Lib.hid mfrexp_150
  have L1 := Lib.hid mldexp_150
  have o1 : (FloatKind.f64.format.order M150 M150 != some .eq) = false := by decide
  have hc : ∀ W, (convert 24 3 (.float .f64 M150)).run Tryz.prog W = .ok (.int .i64 (-150)) W := fun W =>
    run_convert_float_int W 24 3 .f64 .i64 M150 (-150) (by rw [Tryz.underlying24]; rfl) Tryz.underlying3 (by decide)
  have hmx : max (0 : Int) (-45) = 0 := by decide
  have E1 := Lib.hid (eof_int (-150) (by decide) (by decide))
  have E2 := Lib.hid (eof_int 2 (by decide) (by decide))
  have E3 := Lib.hid (eof_int 0 (by decide) (by decide))
  go_enter Tryz.func39, Tryz.ntmps39
  go_wp2_with (fail)
  refine (I1.out _).mono ?_
  rintro e w' ⟨rfl, rfl⟩
  go_wp2_with (fail)
  refine (T1.out _).mono ?_
  rintro e w' ⟨rfl, rfl⟩
  go_wp2_with (fail)
  refine (F1.out _).mono ?_
  rintro e w' ⟨⟨fr, rfl⟩, k1, rfl⟩
  go_wp2_with (fail)
  refine (L1.out _).mono ?_
  rintro e w' ⟨rfl, k2, rfl⟩
  have XR0 : Hid (Bx ((w.alloc (.cells #[.bool false, .slice none 0 0] 36)).drewN (k1 + k2)) w.heap.size false none 0 0) := Lib.hid (Bx.new w false none 0 0)
  have HW0 : Hid (Below w.heap.size w ((w.alloc (.cells #[.bool false, .slice none 0 0] 36)).drewN (k1 + k2))) := Lib.hid (below_drewN ((Below.refl _ w).alloc (Nat.le_refl _) _) _)
  go_wp2_with (fail)
  refine (E1.out _).mono ?_
  intro e w1 hr
  obtain ⟨s1, A1, n1, c1, rfl, hv1, hb1⟩ := hr.gen
  have XR1 := Lib.hid ((XR0.out.below hb1).alloc (.cells #[.bool s1, .slice A1 n1 c1] 36))
  have HV1 := Lib.hid hv1
  have HB1 := Lib.hid (bel_trans (B := w.heap.size) HW0.out hb1)
  clear hr hv1 hb1
  go_wp2_with (fail)
  have X1 := Lib.hid (Bx.new w1 s1 A1 n1 c1)
  have V1 := Lib.hid (HV1.out.alloc (.cells #[.bool s1, .slice A1 n1 c1] 36))
  have hbk := HB1.out
  have HB1b : Hid (Below w.heap.size w (w1.alloc (.cells #[.bool s1, .slice A1 n1 c1] 36))) := Lib.hid (hbk.alloc hbk.size _)
  clear hbk
  refine (E2.out _).mono ?_
  intro e w2 hr
  obtain ⟨s2, A2, n2, c2, rfl, hv2, hb2⟩ := hr.gen
  have XR2 := Lib.hid (XR1.out.below hb2)
  have X2 := Lib.hid (X1.out.below hb2)
  have V12 := Lib.hid (V1.out.keep hb2)
  have HV2 := Lib.hid hv2
  have HB2 := Lib.hid (bel_trans (B := w.heap.size) HB1b.out hb2)
  clear hr hv2 hb2
  go_wp2_with (fail)
  refine (E3.out _).mono ?_
  intro e w3 hr
  obtain ⟨s3, A3, n3, c3, rfl, hv3, hb3⟩ := hr.gen
  have XR3 := Lib.hid (XR2.out.below hb3)
  have X3 := Lib.hid (X2.out.below hb3)
  have V13 := Lib.hid (V12.out.keep hb3)
  have HP := Lib.hid (epow_go s2 s3 A2 A3 n2 c2 n3 c3 2 0 w3 (HV2.out.keep hb3) hv3 (small_not_big (by decide)) (by decide))
  have HB3 := Lib.hid (bel_trans (B := w.heap.size) HB2.out hb3)
  clear hr hv3 hb3
  go_wp2_with (fail)
  refine HP.out.mono ?_
  rintro e w4 ⟨s4, A4, n4, c4, er, rfl, hcase, hb4⟩
  have hpw : powI 0 1 2 = some 1 := by
    rw [powI, if_neg (by decide), if_neg (small_not_big (by decide)), if_pos (by decide)]
    rfl
  rw [hpw] at hcase
  obtain ⟨rfl, hv4⟩ : er = 0 ∧ IntV w4 (.agg #[.bool s4, .slice A4 n4 c4]) 1 := by
    rcases hcase with ⟨h, _⟩ | ⟨z, h, h1, h2⟩
    · cases h
    · injection h with h
      subst h
      exact ⟨h1, h2⟩
  have XR4 := Lib.hid (XR3.out.below hb4)
  have X4 := Lib.hid (X3.out.below hb4)
  have V14 := Lib.hid (V13.out.keep hb4)
  have HV4 := Lib.hid hv4
  have HB4 := Lib.hid (bel_trans (B := w.heap.size) HB3.out hb4)
  clear hcase hpw hv4 hb4
  have XR5 := Lib.hid (XR4.out.alloc (.cells #[.bool s4, .slice A4 n4 c4] 36))
  have X5 := Lib.hid (X4.out.alloc (.cells #[.bool s4, .slice A4 n4 c4] 36))
  have Y5 := Lib.hid (Bx.new w4 s4 A4 n4 c4)
  have V15 := Lib.hid (V14.out.alloc (.cells #[.bool s4, .slice A4 n4 c4] 36))
  have V45 := Lib.hid (HV4.out.alloc (.cells #[.bool s4, .slice A4 n4 c4] 36))
  have HB5 : Hid (Below w.heap.size w (w4.alloc (.cells #[.bool s4, .slice A4 n4 c4] 36))) := Lib.hid (HB4.out.alloc HB4.out.size _)
  have HM := Lib.hid (emul_int V15.out V45.out (small_not_big (by decide)) (small_not_big (by decide)))
  obtain ⟨q0, q1, -, -, ql⟩ := X4.out.facts
  go_wp2_with (fail)
  refine HM.out.mono ?_
  rintro e w6 ⟨s6, A6, n6, c6, er, rfl, hcase, hb6⟩
  have XR6 := Lib.hid (XR5.out.below hb6)
  have HB6 := Lib.hid (bel_trans (B := w.heap.size) HB5.out hb6)
  have HC6 := Lib.hid hcase
  obtain ⟨W, hW, ZR, hbW, hvW, -, -, -⟩ := stored_world XR6.out HB6.out (Nat.le_refl _) s6 A6 n6 c6
  obtain ⟨z0, z1, -, -, zl⟩ := ZR.facts
  obtain ⟨x0, x1, x2, x3, xl⟩ := XR6.out.facts
  have HBW := Lib.hid hbW
  have HVW := Lib.hid hvW
  clear hcase hb6 q0 q1 ql hbW hvW
  go_wp2_with (fail)
  first | rw [hW] | skip
  refine bodyPost_ret (v := .tuple #[.agg #[.bool s6, .slice A6 n6 c6], .int .i64 er]) (by simp [results, Tryz.results39, go_sem, z0, z1]) rfl ?_
  refine ⟨s6, A6, n6, c6, er, rfl, ?_, HBW.out⟩
  rcases HC6.out with ⟨a1, a2, a3⟩ | ⟨a1, a2, a3⟩
  · exact .inl ⟨a1, a2, HVW.out _ _ a3⟩
  · exact .inr ⟨a1, a2, HVW.out _ _ a3⟩

end LM
end Go.Proofs.YtpnjddfnlaonoaaGreatDoor
