/- The walk of the statement ExactNames. -/
import Derived.Test.YtfckjapedjjhpaaDoorExactPw
import Derived.Test.YtfckjapedjjhpaaDoorExactAlive
namespace Go.Proofs.YtfckjapedjjhpaaDoor
open Go.RowKit
namespace LM
set_option linter.unusedVariables false

theorem pow_not_big {z : Int} (h : z.natAbs < 2 ^ 128) : ¬ BigI z := by
  intro hb
  have h1 : (2 : Nat) ^ 128 ≤ 4294967296 ^ 64 := by
    have : (2 : Nat) ^ 128 = 4294967296 ^ 4 := by decide
    rw [this]
    exact Nat.pow_le_pow_right (by decide) (by decide)
  unfold BigI BIG at hb
  omega
theorem pw_s1 : powI 1 68719476736 18446744073709551616 = some 1267650600228229401496703205376 := by
  have h := powI_odd_end (k := 1) (p := 68719476736) (a := 18446744073709551616) (by decide) (by decide) (pow_not_big (by decide))
  exact h
theorem pw_s3 : powI 3 16 4294967296 = some 1267650600228229401496703205376 := by
  have h := powI_odd_go (k := 3) (p := 16) (a := 4294967296) (by decide) (by decide) (pow_not_big (by decide)) (pow_not_big (by decide))
  exact h.trans pw_s1
theorem pw_s6 : powI 6 16 65536 = some 1267650600228229401496703205376 := by
  have h := powI_even_go (k := 6) (p := 16) (a := 65536) (by decide) (by decide) (pow_not_big (by decide)) (pow_not_big (by decide))
  exact h.trans pw_s3
theorem pw_s12 : powI 12 16 256 = some 1267650600228229401496703205376 := by
  have h := powI_even_go (k := 12) (p := 16) (a := 256) (by decide) (by decide) (pow_not_big (by decide)) (pow_not_big (by decide))
  exact h.trans pw_s6
theorem pw_s25 : powI 25 1 16 = some 1267650600228229401496703205376 := by
  have h := powI_odd_go (k := 25) (p := 1) (a := 16) (by decide) (by decide) (pow_not_big (by decide)) (pow_not_big (by decide))
  exact h.trans pw_s12
theorem pw_s50 : powI 50 1 4 = some 1267650600228229401496703205376 := by
  have h := powI_even_go (k := 50) (p := 1) (a := 4) (by decide) (by decide) (pow_not_big (by decide)) (pow_not_big (by decide))
  exact h.trans pw_s25
theorem pw_s100 : powI 100 1 2 = some 1267650600228229401496703205376 := by
  have h := powI_even_go (k := 100) (p := 1) (a := 2) (by decide) (by decide) (pow_not_big (by decide)) (pow_not_big (by decide))
  exact h.trans pw_s50
theorem dg_1 : Lib.decDigits 1 = [49] := dec_small (by decide)
theorem dg_2 : Lib.decDigits 12 = [49, 50] := by
  rw [dec_big (by decide), show 12 / 10 = 1 from by decide, dg_1]
  rfl
theorem dg_3 : Lib.decDigits 126 = [49, 50, 54] := by
  rw [dec_big (by decide), show 126 / 10 = 12 from by decide, dg_2]
  rfl
theorem dg_4 : Lib.decDigits 1267 = [49, 50, 54, 55] := by
  rw [dec_big (by decide), show 1267 / 10 = 126 from by decide, dg_3]
  rfl
theorem dg_5 : Lib.decDigits 12676 = [49, 50, 54, 55, 54] := by
  rw [dec_big (by decide), show 12676 / 10 = 1267 from by decide, dg_4]
  rfl
theorem dg_6 : Lib.decDigits 126765 = [49, 50, 54, 55, 54, 53] := by
  rw [dec_big (by decide), show 126765 / 10 = 12676 from by decide, dg_5]
  rfl
theorem dg_7 : Lib.decDigits 1267650 = [49, 50, 54, 55, 54, 53, 48] := by
  rw [dec_big (by decide), show 1267650 / 10 = 126765 from by decide, dg_6]
  rfl
theorem dg_8 : Lib.decDigits 12676506 = [49, 50, 54, 55, 54, 53, 48, 54] := by
  rw [dec_big (by decide), show 12676506 / 10 = 1267650 from by decide, dg_7]
  rfl
theorem dg_9 : Lib.decDigits 126765060 = [49, 50, 54, 55, 54, 53, 48, 54, 48] := by
  rw [dec_big (by decide), show 126765060 / 10 = 12676506 from by decide, dg_8]
  rfl
theorem dg_10 : Lib.decDigits 1267650600 = [49, 50, 54, 55, 54, 53, 48, 54, 48, 48] := by
  rw [dec_big (by decide), show 1267650600 / 10 = 126765060 from by decide, dg_9]
  rfl
theorem dg_11 : Lib.decDigits 12676506002 = [49, 50, 54, 55, 54, 53, 48, 54, 48, 48, 50] := by
  rw [dec_big (by decide), show 12676506002 / 10 = 1267650600 from by decide, dg_10]
  rfl
theorem dg_12 : Lib.decDigits 126765060022 = [49, 50, 54, 55, 54, 53, 48, 54, 48, 48, 50, 50] := by
  rw [dec_big (by decide), show 126765060022 / 10 = 12676506002 from by decide, dg_11]
  rfl
theorem dg_13 : Lib.decDigits 1267650600228 = [49, 50, 54, 55, 54, 53, 48, 54, 48, 48, 50, 50, 56] := by
  rw [dec_big (by decide), show 1267650600228 / 10 = 126765060022 from by decide, dg_12]
  rfl
theorem dg_14 : Lib.decDigits 12676506002282 = [49, 50, 54, 55, 54, 53, 48, 54, 48, 48, 50, 50, 56, 50] := by
  rw [dec_big (by decide), show 12676506002282 / 10 = 1267650600228 from by decide, dg_13]
  rfl
theorem dg_15 : Lib.decDigits 126765060022822 = [49, 50, 54, 55, 54, 53, 48, 54, 48, 48, 50, 50, 56, 50, 50] := by
  rw [dec_big (by decide), show 126765060022822 / 10 = 12676506002282 from by decide, dg_14]
  rfl
theorem dg_16 : Lib.decDigits 1267650600228229 = [49, 50, 54, 55, 54, 53, 48, 54, 48, 48, 50, 50, 56, 50, 50, 57] := by
  rw [dec_big (by decide), show 1267650600228229 / 10 = 126765060022822 from by decide, dg_15]
  rfl
theorem dg_17 : Lib.decDigits 12676506002282294 = [49, 50, 54, 55, 54, 53, 48, 54, 48, 48, 50, 50, 56, 50, 50, 57, 52] := by
  rw [dec_big (by decide), show 12676506002282294 / 10 = 1267650600228229 from by decide, dg_16]
  rfl
theorem dg_18 : Lib.decDigits 126765060022822940 = [49, 50, 54, 55, 54, 53, 48, 54, 48, 48, 50, 50, 56, 50, 50, 57, 52, 48] := by
  rw [dec_big (by decide), show 126765060022822940 / 10 = 12676506002282294 from by decide, dg_17]
  rfl
theorem dg_19 : Lib.decDigits 1267650600228229401 = [49, 50, 54, 55, 54, 53, 48, 54, 48, 48, 50, 50, 56, 50, 50, 57, 52, 48, 49] := by
  rw [dec_big (by decide), show 1267650600228229401 / 10 = 126765060022822940 from by decide, dg_18]
  rfl
theorem dg_20 : Lib.decDigits 12676506002282294014 = [49, 50, 54, 55, 54, 53, 48, 54, 48, 48, 50, 50, 56, 50, 50, 57, 52, 48, 49, 52] := by
  rw [dec_big (by decide), show 12676506002282294014 / 10 = 1267650600228229401 from by decide, dg_19]
  rfl
theorem dg_21 : Lib.decDigits 126765060022822940149 = [49, 50, 54, 55, 54, 53, 48, 54, 48, 48, 50, 50, 56, 50, 50, 57, 52, 48, 49, 52, 57] := by
  rw [dec_big (by decide), show 126765060022822940149 / 10 = 12676506002282294014 from by decide, dg_20]
  rfl
theorem dg_22 : Lib.decDigits 1267650600228229401496 = [49, 50, 54, 55, 54, 53, 48, 54, 48, 48, 50, 50, 56, 50, 50, 57, 52, 48, 49, 52, 57, 54] := by
  rw [dec_big (by decide), show 1267650600228229401496 / 10 = 126765060022822940149 from by decide, dg_21]
  rfl
theorem dg_23 : Lib.decDigits 12676506002282294014967 = [49, 50, 54, 55, 54, 53, 48, 54, 48, 48, 50, 50, 56, 50, 50, 57, 52, 48, 49, 52, 57, 54, 55] := by
  rw [dec_big (by decide), show 12676506002282294014967 / 10 = 1267650600228229401496 from by decide, dg_22]
  rfl
theorem dg_24 : Lib.decDigits 126765060022822940149670 = [49, 50, 54, 55, 54, 53, 48, 54, 48, 48, 50, 50, 56, 50, 50, 57, 52, 48, 49, 52, 57, 54, 55, 48] := by
  rw [dec_big (by decide), show 126765060022822940149670 / 10 = 12676506002282294014967 from by decide, dg_23]
  rfl
theorem dg_25 : Lib.decDigits 1267650600228229401496703 = [49, 50, 54, 55, 54, 53, 48, 54, 48, 48, 50, 50, 56, 50, 50, 57, 52, 48, 49, 52, 57, 54, 55, 48, 51] := by
  rw [dec_big (by decide), show 1267650600228229401496703 / 10 = 126765060022822940149670 from by decide, dg_24]
  rfl
theorem dg_26 : Lib.decDigits 12676506002282294014967032 = [49, 50, 54, 55, 54, 53, 48, 54, 48, 48, 50, 50, 56, 50, 50, 57, 52, 48, 49, 52, 57, 54, 55, 48, 51, 50] := by
  rw [dec_big (by decide), show 12676506002282294014967032 / 10 = 1267650600228229401496703 from by decide, dg_25]
  rfl
theorem dg_27 : Lib.decDigits 126765060022822940149670320 = [49, 50, 54, 55, 54, 53, 48, 54, 48, 48, 50, 50, 56, 50, 50, 57, 52, 48, 49, 52, 57, 54, 55, 48, 51, 50, 48] := by
  rw [dec_big (by decide), show 126765060022822940149670320 / 10 = 12676506002282294014967032 from by decide, dg_26]
  rfl
theorem dg_28 : Lib.decDigits 1267650600228229401496703205 = [49, 50, 54, 55, 54, 53, 48, 54, 48, 48, 50, 50, 56, 50, 50, 57, 52, 48, 49, 52, 57, 54, 55, 48, 51, 50, 48, 53] := by
  rw [dec_big (by decide), show 1267650600228229401496703205 / 10 = 126765060022822940149670320 from by decide, dg_27]
  rfl
theorem dg_29 : Lib.decDigits 12676506002282294014967032053 = [49, 50, 54, 55, 54, 53, 48, 54, 48, 48, 50, 50, 56, 50, 50, 57, 52, 48, 49, 52, 57, 54, 55, 48, 51, 50, 48, 53, 51] := by
  rw [dec_big (by decide), show 12676506002282294014967032053 / 10 = 1267650600228229401496703205 from by decide, dg_28]
  rfl
theorem dg_30 : Lib.decDigits 126765060022822940149670320537 = [49, 50, 54, 55, 54, 53, 48, 54, 48, 48, 50, 50, 56, 50, 50, 57, 52, 48, 49, 52, 57, 54, 55, 48, 51, 50, 48, 53, 51, 55] := by
  rw [dec_big (by decide), show 126765060022822940149670320537 / 10 = 12676506002282294014967032053 from by decide, dg_29]
  rfl
theorem dg_31 : Lib.decDigits 1267650600228229401496703205376 = [49, 50, 54, 55, 54, 53, 48, 54, 48, 48, 50, 50, 56, 50, 50, 57, 52, 48, 49, 52, 57, 54, 55, 48, 51, 50, 48, 53, 51, 55, 54] := by
  rw [dec_big (by decide), show 1267650600228229401496703205376 / 10 = 126765060022822940149670320537 from by decide, dg_30]
  rfl
theorem dec_pow : decI 1267650600228229401496703205376 = [49, 50, 54, 55, 54, 53, 48, 54, 48, 48, 50, 50, 56, 50, 50, 57, 52, 48, 49, 52, 57, 54, 55, 48, 51, 50, 48, 53, 51, 55, 54] := by
  rw [decI, if_neg (by decide)]
  exact dg_31

set_option maxRecDepth 100000 in
set_option maxHeartbeats 4000000 in
theorem epow_no (s t : Bool) (A B : Option Addr) (n c m d : Nat) (x : Int) (w : World) (hn : IntV w (.agg #[.bool t, .slice B m d]) x) (h1 : 1000 < x) (h2 : x ≤ 9223372036854775807) :
    Calls Tryd.prog 11 #[.agg #[.bool s, .slice A n c], .agg #[.bool t, .slice B m d]] w fun e w' => e = .returned (.tuple #[.agg #[.bool false, .slice none 0 0], .int .i64 21]) ∧ Below w.heap.size w w' := by
  obtain ⟨hb0, x0, y0, z0⟩ := new3 w s t A B n c m d
  have HB0 := Lib.hid hb0
  have XS0 := Lib.hid (((Bxs.nil.cons z0).cons y0).cons x0)
  have C1 := Lib.hid (esmall_int (hn.keep hb0))
  have d1 : decide (x < 0) = false := decide_eq_false (by omega)
  have d2 : decide (1000 < x) = true := decide_eq_true (by omega)
  clear hb0 x0 y0 z0 hn
  go_enter Tryd.func11, Tryd.ntmps11
  go_wp2_with fail
  refine C1.out.mono ?_
  rintro e w1 ⟨he1, hb1⟩
  obtain rfl := he1.inn' (by omega) (by omega)
  have XR1 := Lib.hid (XS0.out.below hb1).tl.tl.hd
  have HB1 := Lib.hid (HB0.out.trans (hb1.mono HB0.out.size))
  obtain ⟨q0, q1, q2, q3, ql⟩ := XR1.out.facts
  clear he1 hb1 C1
  obtain ⟨V, hV, ZR, hbV, -, -, -, -⟩ := stored_world XR1.out HB1.out (by omega) false none 0 0
  obtain ⟨z0, z1, z2, z3, z4⟩ := ZR.facts
  have HBV := Lib.hid hbV
  clear hbV
  go_wp2
  first | rw [hV] | skip
  refine bodyPost_ret (v := .tuple #[.agg #[.bool false, .slice none 0 0], .int .i64 21]) (by simp [results, Tryd.results11, go_sem, z0, z1]) rfl ?_
  exact ⟨rfl, HBV.out⟩

set_option maxRecDepth 100000 in
set_option maxHeartbeats 2000000 in
theorem eright_minus0 (A : Option Addr) (c : Nat) (w : World) :
    Calls Tryd.prog 15 #[.agg #[.bool true, .slice A 0 c]] w fun e w' => e = .returned (.bool false) ∧ Below w.heap.size w w' := by
  have HB := Lib.hid (show Below w.heap.size w (w.alloc (.cells #[.bool true, .slice A 0 c] 24)) from (Below.refl _ w).alloc (Nat.le_refl _) _)
  go_enter Tryd.func15, Tryd.ntmps15
  go_wp2
  go_ret
  exact ⟨rfl, HB.out⟩

set_option maxRecDepth 10000000 in
set_option maxHeartbeats 4000000 in
theorem enames_walk (w : World) (htab : Lib.TabIs Tryd.prog w "internal/strconv.uint64pow10" .u64 Lib.pow10Tab) :
    Calls Tryd.prog 3 #[] w fun e w' => e = .returned (.bool true) ∧ Below w.heap.size w w' := by
  have HTAB := Lib.hid htab
  have H2 : Hid (∀ W, Calls Tryd.prog 12 #[.int .i64 2] W (RetI W 2)) := Lib.hid (eof_int 2 (by decide) (by decide))
  have HM : Hid (∀ W, Calls Tryd.prog 12 #[.int .i64 1001] W (RetI W 1001)) := Lib.hid (eof_int 1001 (by decide) (by decide))
  have HC : Hid (∀ W, Calls Tryd.prog 12 #[.int .i64 100] W (RetI W 100)) := Lib.hid (eof_int 100 (by decide) (by decide))
  have B2 : Hid (¬ BigI 2) := Lib.hid (pow_not_big (by decide))
  have BN : Hid (¬ BigI 1267650600228229401496703205376) := Lib.hid (pow_not_big (by decide))
  clear htab
  go_enter Tryd.func3, Tryd.ntmps3
  go_wp2_with fail
  refine (H2.out _).mono ?_
  intro e w1 hr
  obtain ⟨s1, A1, n1, c1, rfl, hv1, hb1⟩ := hr.gen
  have HV1 := Lib.hid hv1
  have HB1 := Lib.hid hb1
  clear hr hv1 hb1
  go_wp2_with fail
  refine (HM.out _).mono ?_
  intro e w2 hr
  obtain ⟨s2, A2, n2, c2, rfl, hv2, hb2⟩ := hr.gen
  have HP := Lib.hid (epow_no s1 s2 A1 A2 n1 c1 n2 c2 1001 w2 hv2 (by decide) (by decide))
  have HB2 := Lib.hid (HB1.out.trans (hb2.mono HB1.out.size))
  clear hr hv2 hb2
  go_wp2_with fail
  refine HP.out.mono ?_
  rintro e w3 ⟨rfl, hb3⟩
  have hbk := HB2.out.trans (hb3.mono HB2.out.size)
  have HB3 : Hid (Below w.heap.size w (w3.alloc (.cells #[.bool false, .slice none 0 0] 24))) := Lib.hid (hbk.alloc hbk.size _)
  clear hb3 hbk
  go_wp2_with fail
  refine (H2.out _).mono ?_
  intro e w4 hr
  obtain ⟨s4, A4, n4, c4, rfl, hv4, hb4⟩ := hr.gen
  have HV4 := Lib.hid hv4
  have HB4 := Lib.hid (bel_trans (B := w.heap.size) HB3.out hb4)
  clear hr hv4 hb4
  go_wp2_with fail
  refine (HC.out _).mono ?_
  intro e w5 hr
  obtain ⟨s5, A5, n5, c5, rfl, hv5, hb5⟩ := hr.gen
  have HQ := Lib.hid (epow_go s4 s5 A4 A5 n4 c4 n5 c5 2 100 w5 (HV4.out.keep hb5) hv5 B2.out (by decide))
  rw [pw_s100] at HQ
  have HB5 := Lib.hid (bel_trans (B := w.heap.size) HB4.out hb5)
  clear hr hv5 hb5
  go_wp2_with fail
  refine HQ.out.mono ?_
  rintro e w6 ⟨s6, A6, n6, c6, er, rfl, hcase, hb6⟩
  obtain ⟨rfl, hv6⟩ : er = 0 ∧ IntV w6 (.agg #[.bool s6, .slice A6 n6 c6]) 1267650600228229401496703205376 := by
    rcases hcase with ⟨h, _⟩ | ⟨z, h, h1, h2⟩
    · cases h
    · injection h with h
      subst h
      exact ⟨h1, h2⟩
  have X6 := Lib.hid (Bx.new w6 s6 A6 n6 c6)
  have V6 := Lib.hid (hv6.alloc (.cells #[.bool s6, .slice A6 n6 c6] 24))
  have hbk := bel_trans (B := w.heap.size) HB5.out hb6
  have HB6 : Hid (Below w.heap.size w (w6.alloc (.cells #[.bool s6, .slice A6 n6 c6] 24))) := Lib.hid (hbk.alloc hbk.size _)
  have HAL := Lib.hid (ealive_any _ (tab_below HTAB.out HB6.out))
  clear hcase hv6 hb6 hbk
  go_wp2_with fail
  refine HAL.out.mono ?_
  rintro e w7 ⟨rfl, hb7⟩
  have X7 := Lib.hid (X6.out.below hb7)
  have HB7 := Lib.hid (bel_trans (B := w.heap.size) HB6.out hb7)
  have HT := Lib.hid (etext_int (V6.out.keep hb7) BN.out (tab_below HTAB.out HB7.out))
  rw [dec_pow] at HT
  clear hb7
  obtain ⟨q0, q1, -, -, ql⟩ := X7.out.facts
  go_wp2_with fail
  refine HT.out.mono ?_
  rintro e w8 ⟨rfl, hb8⟩
  have HB8 := Lib.hid (bel_trans (B := w.heap.size) HB7.out hb8)
  have HR := Lib.hid (eright_minus0 none 0 w8)
  clear hb8 q0 q1 ql
  go_wp2_with fail
  refine HR.out.mono ?_
  rintro e w9 ⟨rfl, hb9⟩
  have HB9 := Lib.hid (bel_trans (B := w.heap.size) HB8.out hb9)
  clear hb9
  go_wp2
  go_ret
  exact ⟨rfl, HB9.out⟩

end LM
end Go.Proofs.YtfckjapedjjhpaaDoor
