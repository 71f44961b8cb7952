/- The walk of the statement ExactOrder, where the numbers are right. -/
import Derived.Test.YtfckjapedjjhpaaDoorExactLawOrderA
import Derived.Deep.RegionHeld3
namespace Go.Proofs.YtfckjapedjjhpaaDoor
open Go.RowKit
namespace LM
set_option linter.unusedVariables false

set_option maxRecDepth 10000000 in
set_option maxHeartbeats 2000000 in
theorem order_lt_yes (s t u : Bool) (A B C : Option Addr) (ca cb cc : Nat) (xs ys zs : List Nat) (w : World) (ha : Rd w A xs) (hb : Rd w B ys) (hc : Rd w C zs) (hx : Lm xs) (hy : Lm ys) (hz : Lm zs) (hca : xs.length ≤ ca) (hcb : ys.length ≤ cb) (hcc : zs.length ≤ cc)
    (hcam : ca ≤ 9223372036854775807) (hcbm : cb ≤ 9223372036854775807) (hccm : cc ≤ 9223372036854775807) (hna : A = none → xs.length = 0 ∧ ca = 0) (hnb : B = none → ys.length = 0 ∧ cb = 0) (hnc : C = none → zs.length = 0 ∧ cc = 0)
    (htab : Lib.TabIs Tryd.prog w "internal/strconv.uint64pow10" .u64 Lib.pow10Tab) (hrx : rightB s xs = true) (hry : rightB t ys = true) (hrz : rightB u zs = true) (ho : sg s (val xs) < sg t (val ys)) (ho2 : sg t (val ys) < sg u (val zs)) :
    Calls Tryd.prog 10 #[.agg #[.bool s, .slice A xs.length ca], .agg #[.bool t, .slice B ys.length cb], .agg #[.bool u, .slice C zs.length cc]] w fun e w' => e = .returned (.bool true) ∧ Below w.heap.size w w' := by
  obtain ⟨hb0, x0, y0, z0⟩ := newp3 w s t u A B C xs.length ca ys.length cb zs.length cc
  have HB0 := Lib.hid hb0
  have X0 := Lib.hid x0
  have Y0 := Lib.hid y0
  have Z0 := Lib.hid z0
  have HAL := Lib.hid (ealive_any _ (tab_below htab hb0))
  have HA0 := Lib.hid (ha.below hb0)
  have HBB0 := Lib.hid (hb.below hb0)
  have HC0 := Lib.hid (hc.below hb0)
  have HX := Lib.hid hx
  have HY := Lib.hid hy
  have HZ := Lib.hid hz
  have HNA := Lib.hid hna
  have HNB := Lib.hid hnb
  have HNC := Lib.hid hnc
  have HRX := Lib.hid hrx
  have HRY := Lib.hid hry
  have HRZ := Lib.hid hrz
  clear hb0 x0 y0 z0 ha hb hc hx hy hz hna hnb hnc htab hrx hry hrz
  go_enter Tryd.func10, Tryd.ntmps10
  go_wp2_with fail
  refine HAL.out.mono ?_
  rintro e w1 ⟨rfl, hb1⟩
  have X1 := Lib.hid (X0.out.below hb1)
  have Y1 := Lib.hid (Y0.out.below hb1)
  have Z1 := Lib.hid (Z0.out.below hb1)
  have HB1 := Lib.hid (HB0.out.trans (hb1.mono HB0.out.size))
  have R1 := Lib.hid (rright_any s A ca xs w1 (HA0.out.below hb1) HX.out hca hcam HNA.out)
  have HBB1 := Lib.hid (HBB0.out.below hb1)
  have HC1 := Lib.hid (HC0.out.below hb1)
  have HA1 := Lib.hid (HA0.out.below hb1)
  rw [HRX.out] at R1
  clear hb1
  obtain ⟨q0, q1, -, -, ql⟩ := X1.out.facts
  go_wp2_with fail
  refine R1.out.mono ?_
  rintro e w2 ⟨rfl, hb2⟩
  have HB2 := Lib.hid (HB1.out.trans (hb2.mono HB1.out.size))
  have X2 := Lib.hid (X1.out.below hb2)
  have Y2 := Lib.hid (Y1.out.below hb2)
  have Z2 := Lib.hid (Z1.out.below hb2)
  have R2 := Lib.hid (rright_any t B cb ys w2 (HBB1.out.below hb2) HY.out hcb hcbm HNB.out)
  have HA2 := Lib.hid (HA1.out.below hb2)
  have HBB2 := Lib.hid (HBB1.out.below hb2)
  have HC2 := Lib.hid (HC1.out.below hb2)
  rw [HRY.out] at R2
  clear hb2 q0 q1 ql
  obtain ⟨q0, q1, -, -, ql⟩ := Y2.out.facts
  go_wp2_with fail
  refine R2.out.mono ?_
  rintro e w3 ⟨rfl, hb3⟩
  have HB3 := Lib.hid (HB2.out.trans (hb3.mono HB2.out.size))
  have X3 := Lib.hid (X2.out.below hb3)
  have Y3 := Lib.hid (Y2.out.below hb3)
  have Z3 := Lib.hid (Z2.out.below hb3)
  have R3 := Lib.hid (rright_any u C cc zs w3 (HC2.out.below hb3) HZ.out hcc hccm HNC.out)
  have HA3 := Lib.hid (HA2.out.below hb3)
  have HBB3 := Lib.hid (HBB2.out.below hb3)
  have HC3 := Lib.hid (HC2.out.below hb3)
  rw [HRZ.out] at R3
  clear hb3 q0 q1 ql
  obtain ⟨q0, q1, -, -, ql⟩ := Z3.out.facts
  go_wp2_with fail
  refine R3.out.mono ?_
  rintro e w4 ⟨rfl, hb4⟩
  have HB4 := Lib.hid (HB3.out.trans (hb4.mono HB3.out.size))
  have X4 := Lib.hid (X3.out.below hb4)
  have Y4 := Lib.hid (Y3.out.below hb4)
  have Z4 := Lib.hid (Z3.out.below hb4)
  obtain ⟨hvx, nbx⟩ := intV_of HRX.out (HA3.out.below hb4) HX.out hca hcam
  obtain ⟨hvy, nby⟩ := intV_of HRY.out (HBB3.out.below hb4) HY.out hcb hcbm
  obtain ⟨hvz, nbz⟩ := intV_of HRZ.out (HC3.out.below hb4) HZ.out hcc hccm
  have VX4 := Lib.hid hvx
  have VY4 := Lib.hid hvy
  have VZ4 := Lib.hid hvz
  have NX := Lib.hid nbx
  have NY := Lib.hid nby
  have NZ := Lib.hid nbz
  clear hb4 q0 q1 ql hvx hvy hvz nbx nby nbz
  generalize sg s (val xs) = x at *
  generalize sg t (val ys) = y at *
  generalize sg u (val zs) = z at *
  have HO := Lib.hid ho
  have HO2 := Lib.hid ho2
  have CO := Lib.hid (ecmp_int VX4.out VY4.out NX.out NY.out)
  rw [cmpI_lt HO.out] at CO
  clear ho ho2
  obtain ⟨q0, q1, -, -, ql⟩ := X4.out.facts
  obtain ⟨p0, p1, -, -, pl⟩ := Y4.out.facts
  go_wp2_with fail
  refine CO.out.mono ?_
  rintro e w5 ⟨rfl, hb5⟩
  have HB5 := Lib.hid (HB4.out.trans (hb5.mono HB4.out.size)).drew
  have X5 := Lib.hid (X4.out.below hb5).drew
  have Y5 := Lib.hid (Y4.out.below hb5).drew
  have Z5 := Lib.hid (Z4.out.below hb5).drew
  have VX5 := Lib.hid (VX4.out.keep hb5).drew
  have VY5 := Lib.hid (VY4.out.keep hb5).drew
  have VZ5 := Lib.hid (VZ4.out.keep hb5).drew
  have C1 := Lib.hid (ecmp_int VY5.out VX5.out NY.out NX.out)
  rw [cmpI_gt HO.out] at C1
  clear hb5 q0 q1 ql p0 p1 pl
  have hw1 : IntKind.i64.wrap 1 = 1 := by decide
  have hw2 : IntKind.i64.wrap (-1) = -1 := by decide
  have hw3 : IntKind.i64.wrap 0 = 0 := by decide
  go_wp2
  go_region_held3 (fun W => W.cell? ⟨w.heap.size, 0, none⟩ = some (.bool s) ∧ W.cell? ⟨w.heap.size, 1, none⟩ = some (.slice A xs.length ca) ∧ W.cell? ⟨w.heap.size + 1, 0, none⟩ = some (.bool t) ∧ W.cell? ⟨w.heap.size + 1, 1, none⟩ = some (.slice B ys.length cb))
    ((refine ⟨Bx.c0 (A := A) (n := xs.length) (c := ca) ?_, Bx.c1 (b := s) ?_, Bx.c0 (A := B) (n := ys.length) (c := cb) ?_, Bx.c1 (b := t) ?_⟩ <;> (with_reducible exact Hid.out (by assumption))))
    (first
      | (go_at_call 28; (with_reducible refine C1.out.mono ?_); rintro e w6 ⟨rfl, hb6⟩; have X6 := Lib.hid (X5.out.below hb6); have Y6 := Lib.hid (Y5.out.below hb6); have Z6 := Lib.hid (Z5.out.below hb6); have VX6 := Lib.hid (VX5.out.keep hb6); have VY6 := Lib.hid (VY5.out.keep hb6); have VZ6 := Lib.hid (VZ5.out.keep hb6); have HB6 := Lib.hid (HB5.out.trans (hb6.mono HB5.out.size)); have C2 := Lib.hid (esame_int VX6.out VY6.out NX.out NY.out); rw [show decide (x = y) = false from decide_eq_false (by have := HO.out; omega)] at C2; clear hb6)
      | (go_at_call 17; (with_reducible refine C2.out.mono ?_); rintro e w7 ⟨rfl, hb7⟩; have X7 := Lib.hid (X6.out.below hb7); have Y7 := Lib.hid (Y6.out.below hb7); have Z7 := Lib.hid (Z6.out.below hb7); have VX7 := Lib.hid (VX6.out.keep hb7); have VY7 := Lib.hid (VY6.out.keep hb7); have VZ7 := Lib.hid (VZ6.out.keep hb7); have HB7 := Lib.hid (HB6.out.trans (hb7.mono HB6.out.size)); have C3 := Lib.hid (eneg_int VY7.out NY.out); clear hb7)
      | (go_at_call 30; (with_reducible refine C3.out.mono ?_); intro e w8 hr8; obtain ⟨s8, A8, n8, c8, rfl, hv8, hb8⟩ := hr8.gen; have X8 := Lib.hid (X7.out.below hb8); have Y8 := Lib.hid (Y7.out.below hb8); have Z8 := Lib.hid (Z7.out.below hb8); have VX8 := Lib.hid (VX7.out.keep hb8); have VY8 := Lib.hid (VY7.out.keep hb8); have VZ8 := Lib.hid (VZ7.out.keep hb8); have HB8 := Lib.hid (HB7.out.trans (hb8.mono HB7.out.size)); have VN8 := Lib.hid hv8; have C4 := Lib.hid (eneg_int VX8.out NX.out); clear hr8 hb8 hv8)
      | (go_at_call 30; (with_reducible refine C4.out.mono ?_); intro e w9 hr9; obtain ⟨s9, A9, n9, c9, rfl, hv9, hb9⟩ := hr9.gen; have X9 := Lib.hid (X8.out.below hb9); have Y9 := Lib.hid (Y8.out.below hb9); have Z9 := Lib.hid (Z8.out.below hb9); have VX9 := Lib.hid (VX8.out.keep hb9); have VY9 := Lib.hid (VY8.out.keep hb9); have VZ9 := Lib.hid (VZ8.out.keep hb9); have HB9 := Lib.hid (HB8.out.trans (hb9.mono HB8.out.size)); have C5 := Lib.hid (ecmp_int (VN8.out.keep hb9) hv9 (big_neg NY.out) (big_neg NX.out)); rw [cmpI_lt (x := -y) (y := -x) (by have := HO.out; omega)] at C5; clear hr9 hb9 hv9)
      | (go_at_call 28; (with_reducible refine C5.out.mono ?_); rintro e wa ⟨rfl, hba⟩; have Xa := Lib.hid (X9.out.below hba); have Ya := Lib.hid (Y9.out.below hba); have Za := Lib.hid (Z9.out.below hba); have VXa := Lib.hid (VX9.out.keep hba); have VYa := Lib.hid (VY9.out.keep hba); have VZa := Lib.hid (VZ9.out.keep hba); have HBa := Lib.hid (HB9.out.trans (hba.mono HB9.out.size)); obtain ⟨q0, q1, -, -, ql⟩ := Xa.out.facts; obtain ⟨p0, p1, -, -, pl⟩ := Ya.out.facts; obtain ⟨r0, r1, -, -, rl⟩ := Za.out.facts; clear hba))
  all_goals
    have E1 := Lib.hid (ecmp_int VYa.out VZa.out NY.out NZ.out)
    rw [cmpI_lt HO2.out] at E1
    go_wp2_with fail
    refine E1.out.mono ?_
    rintro e wf ⟨rfl, hbf⟩
    have Xf := Lib.hid (Xa.out.below hbf)
    have Yf := Lib.hid (Ya.out.below hbf)
    have Zf := Lib.hid (Za.out.below hbf)
    have VXf := Lib.hid (VXa.out.keep hbf)
    have VYf := Lib.hid (VYa.out.keep hbf)
    have VZf := Lib.hid (VZa.out.keep hbf)
    have HBf := Lib.hid (HBa.out.trans (hbf.mono HBa.out.size))
    clear hbf q0 q1 ql p0 p1 pl r0 r1 rl
    obtain ⟨q0, q1, -, -, ql⟩ := Xf.out.facts
    obtain ⟨p0, p1, -, -, pl⟩ := Yf.out.facts
    obtain ⟨r0, r1, -, -, rl⟩ := Zf.out.facts
    have E2 := Lib.hid (ecmp_int VXf.out VZf.out NX.out NZ.out)
    rw [cmpI_lt (Int.lt_trans HO.out HO2.out)] at E2
    go_wp2_with fail
    refine E2.out.mono ?_
    rintro e wg ⟨rfl, hbg⟩
    have Xg := Lib.hid (Xf.out.below hbg)
    have Yg := Lib.hid (Yf.out.below hbg)
    have Zg := Lib.hid (Zf.out.below hbg)
    have VXg := Lib.hid (VXf.out.keep hbg)
    have VYg := Lib.hid (VYf.out.keep hbg)
    have VZg := Lib.hid (VZf.out.keep hbg)
    have HBg := Lib.hid (HBf.out.trans (hbg.mono HBf.out.size))
    clear hbg q0 q1 ql p0 p1 pl r0 r1 rl
    obtain ⟨q0, q1, -, -, ql⟩ := Xg.out.facts
    obtain ⟨p0, p1, -, -, pl⟩ := Yg.out.facts
    obtain ⟨r0, r1, -, -, rl⟩ := Zg.out.facts
    have D1 := Lib.hid (eadd_int VXg.out VZg.out NX.out NZ.out)
    go_wp2_with fail
    refine D1.out.mono ?_
    rintro e wb ⟨sb, Ab, nb, cb1, eb, rfl, hcb1, hbb⟩
    have Yb := Lib.hid ((Yg.out.below hbb).alloc (.cells #[.bool sb, .slice Ab nb cb1] 24))
    have Zb := Lib.hid ((Zg.out.below hbb).alloc (.cells #[.bool sb, .slice Ab nb cb1] 24))
    have Sb := Lib.hid (Bx.new wb sb Ab nb cb1)
    have VYb := Lib.hid ((VYg.out.keep hbb).alloc (.cells #[.bool sb, .slice Ab nb cb1] 24))
    have VZb := Lib.hid ((VZg.out.keep hbb).alloc (.cells #[.bool sb, .slice Ab nb cb1] 24))
    have hbB := HBg.out.trans (hbb.mono HBg.out.size)
    have HBb := Lib.hid (hbB.alloc hbB.size (.cells #[.bool sb, .slice Ab nb cb1] 24))
    have CB := Lib.hid hcb1
    have D2 := Lib.hid (eadd_int VYb.out VZb.out NY.out NZ.out)
    clear q0 q1 ql p0 p1 pl r0 r1 rl hcb1 hbB
    obtain ⟨p0, p1, -, -, pl⟩ := (Yg.out.below hbb).facts
    obtain ⟨r0, r1, -, -, rl⟩ := (Zg.out.below hbb).facts
    clear hbb
    go_wp2_with fail
    refine D2.out.mono ?_
    rintro e wc ⟨sc, Ac, nc, cc1, ec, rfl, hcc1, hbc⟩
    have HBc := Lib.hid (HBb.out.trans (hbc.mono HBb.out.size))
    have Sb2 := Lib.hid ((Sb.out.below hbc).alloc (.cells #[.bool sc, .slice Ac nc cc1] 24))
    obtain ⟨f0, f1, -, -, fl⟩ := (Sb.out.below hbc).facts
    have CC := Lib.hid hcc1
    have HBd := Lib.hid (HBc.out.alloc HBc.out.size (.cells #[.bool sc, .slice Ac nc cc1] 24))
    have hcase : (eb = 11 ∨ eb = 0 ∧ ec = 11) ∨ (eb = 0 ∧ ec = 0 ∧ ¬ BigI (x + z) ∧ ¬ BigI (y + z) ∧ IntV wb (.agg #[.bool sb, .slice Ab nb cb1]) (x + z) ∧ IntV wc (.agg #[.bool sc, .slice Ac nc cc1]) (y + z)) := by
      rcases CB.out with ⟨_, h2, _⟩ | ⟨h1, h2, h3⟩
      · exact .inl (.inl h2)
      · rcases hcc1 with ⟨_, k2, _⟩ | ⟨k1, k2, k3⟩
        · exact .inl (.inr ⟨h2, k2⟩)
        · exact .inr ⟨h2, k2, h1, k1, h3, k3⟩
    clear p0 p1 pl r0 r1 rl hcc1
    rcases hcase with h11 | ⟨rfl, rfl, nb1, nb2, hv1, hv2⟩
    · clear hbc
      rcases h11 with rfl | ⟨rfl, rfl⟩
      · go_wp2
        go_ret
        exact ⟨rfl, HBd.out⟩
      · go_wp2
        go_ret
        exact ⟨rfl, HBd.out⟩
    · have D3 := Lib.hid (ecmp_int (((hv1.alloc (.cells #[.bool sb, .slice Ab nb cb1] 24)).keep hbc).alloc (.cells #[.bool sc, .slice Ac nc cc1] 24)) (hv2.alloc (.cells #[.bool sc, .slice Ac nc cc1] 24)) nb1 nb2)
      rw [cmpI_add, cmpI_lt HO.out] at D3
      clear nb1 nb2 hv1 hv2 hbc
      go_wp2_with fail
      refine D3.out.mono ?_
      rintro e we ⟨rfl, hbe⟩
      have HBe := Lib.hid (HBd.out.trans (hbe.mono HBd.out.size))
      clear hbe f0 f1 fl
      go_wp2
      go_ret
      exact ⟨rfl, HBe.out⟩

end LM
end Go.Proofs.YtfckjapedjjhpaaDoor
