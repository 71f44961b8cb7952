/- The walk of the statement ExactSums. -/
import Derived.Test.YtfckjapedjjhpaaDoorExactLawSumsA
import Derived.Deep.RegionHeld3
namespace Go.Proofs.YtfckjapedjjhpaaDoor
open Go.RowKit
namespace LM
set_option linter.unusedVariables false

set_option maxRecDepth 10000000 in
set_option maxHeartbeats 8000000 in
theorem sums_main (s t : Bool) (A B : Option Addr) (ca cb : Nat) (xs ys : List Nat) (w : World) (ha : Rd w A xs) (hb : Rd w B ys) (hx : Lm xs) (hy : Lm ys) (hca : xs.length ≤ ca) (hcb : ys.length ≤ cb)
    (hcam : ca ≤ 9223372036854775807) (hcbm : cb ≤ 9223372036854775807) (hna : A = none → xs.length = 0 ∧ ca = 0) (hnb : B = none → ys.length = 0 ∧ cb = 0)
    (htab : Lib.TabIs Tryd.prog w "internal/strconv.uint64pow10" .u64 Lib.pow10Tab) (hrx : rightB s xs = true) (hry : rightB t ys = true) :
    Calls Tryd.prog 5 #[.agg #[.bool s, .slice A xs.length ca], .agg #[.bool t, .slice B ys.length cb]] w fun e w' => e = .returned (.bool true) ∧ Below w.heap.size w w' := by
  obtain ⟨hb0, x0, y0⟩ := newp2 w s t A B xs.length ca ys.length cb
  have HB0 := Lib.hid hb0
  have XS0 := Lib.hid ((Bxs.nil.cons y0).cons x0)
  have HAL := Lib.hid (ealive_any _ (tab_below htab hb0))
  have HTAB := Lib.hid (tab_below htab hb0)
  have HA0 := Lib.hid (ha.below hb0)
  have HBB0 := Lib.hid (hb.below hb0)
  have HX := Lib.hid hx
  have HY := Lib.hid hy
  have HNA := Lib.hid hna
  have HNB := Lib.hid hnb
  have HRX := Lib.hid hrx
  have HRY := Lib.hid hry
  clear hb0 x0 y0 ha hb hx hy hna hnb htab hrx hry
  go_enter Tryd.func5, Tryd.ntmps5
  go_wp2_with fail
  refine HAL.out.mono ?_
  rintro e w1 ⟨rfl, hb1⟩
  have XS1 := Lib.hid (XS0.out.below hb1)
  have HB1 := Lib.hid (HB0.out.trans (hb1.mono HB0.out.size))
  have HA1 := Lib.hid (HA0.out.below hb1)
  have HBB1 := Lib.hid (HBB0.out.below hb1)
  have R1 := Lib.hid (rright_any s A ca xs w1 HA1.out HX.out hca hcam HNA.out)
  rw [HRX.out] at R1
  have HTAB1 := Lib.hid (tab_below HTAB.out hb1)
  clear hb1
  obtain ⟨q0, q1, -, -, ql⟩ := XS1.out.hd.facts
  go_wp2_with fail
  refine R1.out.mono ?_
  rintro e w2 ⟨rfl, hb2⟩
  have HB2 := Lib.hid (HB1.out.trans (hb2.mono HB1.out.size))
  have XS2 := Lib.hid (XS1.out.below hb2)
  have HA2 := Lib.hid (HA1.out.below hb2)
  have HBB2 := Lib.hid (HBB1.out.below hb2)
  have R2 := Lib.hid (rright_any t B cb ys w2 HBB2.out HY.out hcb hcbm HNB.out)
  rw [HRY.out] at R2
  have HTAB2 := Lib.hid (tab_below HTAB1.out hb2)
  clear hb2 q0 q1 ql
  obtain ⟨q0, q1, -, -, ql⟩ := XS2.out.tl.hd.facts
  go_wp2_with fail
  refine R2.out.mono ?_
  rintro e w3 ⟨rfl, hb3⟩
  have HB3 := Lib.hid (HB2.out.trans (hb3.mono HB2.out.size))
  have XS3 := Lib.hid (XS2.out.below hb3)
  have HTAB3 := Lib.hid (tab_below HTAB2.out hb3)
  obtain ⟨hvx, nbx⟩ := intV_of HRX.out (HA2.out.below hb3) HX.out hca hcam
  obtain ⟨hvy, nby⟩ := intV_of HRY.out (HBB2.out.below hb3) HY.out hcb hcbm
  have VX3 := Lib.hid hvx
  have VY3 := Lib.hid hvy
  have NX := Lib.hid nbx
  have NY := Lib.hid nby
  clear hb3 q0 q1 ql hvx hvy nbx nby
  generalize sg s (val xs) = x at *
  generalize sg t (val ys) = y at *
  have RS3 := Lib.hid (Rs.nil (w := w3))
  obtain ⟨q0, q1, -, -, ql⟩ := XS3.out.hd.facts
  obtain ⟨p0, p1, -, -, pl⟩ := XS3.out.tl.hd.facts
  have C4 := Lib.hid (eadd_int VX3.out VY3.out NX.out NY.out)
  go_wp2_with fail
  refine C4.out.mono ?_
  intro e w4 hr4
  obtain ⟨s4, A4, n4, c4, e4, z4, rfl, hv4, ho4, hb4⟩ := hr4.out
  have XS4 := Lib.hid ((XS3.out.below hb4).new s4 A4 n4 c4)
  have VX4 := Lib.hid ((VX3.out.keep hb4).alloc (.cells #[.bool s4, .slice A4 n4 c4] 24))
  have VY4 := Lib.hid ((VY3.out.keep hb4).alloc (.cells #[.bool s4, .slice A4 n4 c4] 24))
  have RS4 := Lib.hid (((RS3.out.keep hb4).cons hv4.toR).alloc (.cells #[.bool s4, .slice A4 n4 c4] 24))
  have hbk4 := HB3.out.trans (hb4.mono HB3.out.size)
  have HB4 := Lib.hid (hbk4.alloc hbk4.size (.cells #[.bool s4, .slice A4 n4 c4] 24))
  have O4 := Lib.hid ho4
  clear q0 q1 ql p0 p1 pl hv4 ho4 hbk4 hr4
  obtain ⟨q0, q1, -, -, ql⟩ := (XS3.out.below hb4).hd.facts
  obtain ⟨p0, p1, -, -, pl⟩ := (XS3.out.below hb4).tl.hd.facts
  clear hb4
  have C5 := Lib.hid (esub_int VX4.out VY4.out NX.out NY.out)
  go_wp2_with fail
  refine C5.out.mono ?_
  intro e w5 hr5
  obtain ⟨s5, A5, n5, c5, e5, z5, rfl, hv5, ho5, hb5⟩ := hr5.out
  have XS5 := Lib.hid ((XS4.out.below hb5).new s5 A5 n5 c5)
  have VX5 := Lib.hid ((VX4.out.keep hb5).alloc (.cells #[.bool s5, .slice A5 n5 c5] 24))
  have VY5 := Lib.hid ((VY4.out.keep hb5).alloc (.cells #[.bool s5, .slice A5 n5 c5] 24))
  have RS5 := Lib.hid (((RS4.out.keep hb5).cons hv5.toR).alloc (.cells #[.bool s5, .slice A5 n5 c5] 24))
  have hbk5 := HB4.out.trans (hb5.mono HB4.out.size)
  have HB5 := Lib.hid (hbk5.alloc hbk5.size (.cells #[.bool s5, .slice A5 n5 c5] 24))
  have O5 := Lib.hid ho5
  clear q0 q1 ql p0 p1 pl hv5 ho5 hbk5 hr5
  obtain ⟨q0, q1, -, -, ql⟩ := (XS4.out.below hb5).tl.hd.facts
  obtain ⟨p0, p1, -, -, pl⟩ := (XS4.out.below hb5).tl.tl.hd.facts
  clear hb5
  have C6 := Lib.hid (emul_int VX5.out VY5.out NX.out NY.out)
  go_wp2_with fail
  refine C6.out.mono ?_
  intro e w6 hr6
  obtain ⟨s6, A6, n6, c6, e6, z6, rfl, hv6, ho6, hb6⟩ := hr6.out
  have XS6 := Lib.hid ((XS5.out.below hb6).new s6 A6 n6 c6)
  have VX6 := Lib.hid ((VX5.out.keep hb6).alloc (.cells #[.bool s6, .slice A6 n6 c6] 24))
  have VY6 := Lib.hid ((VY5.out.keep hb6).alloc (.cells #[.bool s6, .slice A6 n6 c6] 24))
  have RS6 := Lib.hid (((RS5.out.keep hb6).cons hv6.toR).alloc (.cells #[.bool s6, .slice A6 n6 c6] 24))
  have hbk6 := HB5.out.trans (hb6.mono HB5.out.size)
  have HB6 := Lib.hid (hbk6.alloc hbk6.size (.cells #[.bool s6, .slice A6 n6 c6] 24))
  have O6 := Lib.hid ho6
  clear q0 q1 ql p0 p1 pl hv6 ho6 hbk6 hr6
  obtain ⟨q0, q1, -, -, ql⟩ := (XS5.out.below hb6).tl.tl.hd.facts
  obtain ⟨p0, p1, -, -, pl⟩ := (XS5.out.below hb6).tl.tl.tl.hd.facts
  clear hb6
  have C7 := Lib.hid (radd2_int VX6.out.toR VY6.out.toR NX.out NY.out)
  go_wp2_with fail
  refine C7.out.mono ?_
  intro e w7 hr7
  obtain ⟨s7, A7, n7, c7, e7, z7, rfl, hv7, ho7, hb7⟩ := hr7.out
  have XS7 := Lib.hid ((XS6.out.below hb7).new s7 A7 n7 c7)
  have VX7 := Lib.hid ((VX6.out.keep hb7).alloc (.cells #[.bool s7, .slice A7 n7 c7] 24))
  have VY7 := Lib.hid ((VY6.out.keep hb7).alloc (.cells #[.bool s7, .slice A7 n7 c7] 24))
  have RS7 := Lib.hid (((RS6.out.keep hb7).cons hv7).alloc (.cells #[.bool s7, .slice A7 n7 c7] 24))
  have hbk7 := HB6.out.trans (hb7.mono HB6.out.size)
  have HB7 := Lib.hid (hbk7.alloc hbk7.size (.cells #[.bool s7, .slice A7 n7 c7] 24))
  have O7 := Lib.hid ho7
  clear q0 q1 ql p0 p1 pl hv7 ho7 hbk7 hr7
  obtain ⟨q0, q1, -, -, ql⟩ := (XS6.out.below hb7).tl.tl.tl.hd.facts
  obtain ⟨p0, p1, -, -, pl⟩ := (XS6.out.below hb7).tl.tl.tl.tl.hd.facts
  clear hb7
  have C8 := Lib.hid (rsub2_int VX7.out.toR VY7.out.toR NX.out NY.out)
  go_wp2_with fail
  refine C8.out.mono ?_
  intro e w8 hr8
  obtain ⟨s8, A8, n8, c8, e8, z8, rfl, hv8, ho8, hb8⟩ := hr8.out
  have XS8 := Lib.hid ((XS7.out.below hb8).new s8 A8 n8 c8)
  have VX8 := Lib.hid ((VX7.out.keep hb8).alloc (.cells #[.bool s8, .slice A8 n8 c8] 24))
  have VY8 := Lib.hid ((VY7.out.keep hb8).alloc (.cells #[.bool s8, .slice A8 n8 c8] 24))
  have RS8 := Lib.hid (((RS7.out.keep hb8).cons hv8).alloc (.cells #[.bool s8, .slice A8 n8 c8] 24))
  have hbk8 := HB7.out.trans (hb8.mono HB7.out.size)
  have HB8 := Lib.hid (hbk8.alloc hbk8.size (.cells #[.bool s8, .slice A8 n8 c8] 24))
  have O8 := Lib.hid ho8
  clear q0 q1 ql p0 p1 pl hv8 ho8 hbk8 hr8
  obtain ⟨q0, q1, -, -, ql⟩ := (XS7.out.below hb8).tl.tl.tl.tl.hd.facts
  obtain ⟨p0, p1, -, -, pl⟩ := (XS7.out.below hb8).tl.tl.tl.tl.tl.hd.facts
  clear hb8
  have C9 := Lib.hid (rmul2_int VX8.out.toR VY8.out.toR NX.out NY.out)
  go_wp2_with fail
  refine C9.out.mono ?_
  intro e w9 hr9
  obtain ⟨s9, A9, n9, c9, e9, z9, rfl, hv9, ho9, hb9⟩ := hr9.out
  have XS9 := Lib.hid ((XS8.out.below hb9).new s9 A9 n9 c9)
  have VX9 := Lib.hid ((VX8.out.keep hb9).alloc (.cells #[.bool s9, .slice A9 n9 c9] 24))
  have VY9 := Lib.hid ((VY8.out.keep hb9).alloc (.cells #[.bool s9, .slice A9 n9 c9] 24))
  have RS9 := Lib.hid (((RS8.out.keep hb9).cons hv9).alloc (.cells #[.bool s9, .slice A9 n9 c9] 24))
  have hbk9 := HB8.out.trans (hb9.mono HB8.out.size)
  have HB9 := Lib.hid (hbk9.alloc hbk9.size (.cells #[.bool s9, .slice A9 n9 c9] 24))
  have O9 := Lib.hid ho9
  clear q0 q1 ql p0 p1 pl hv9 ho9 hbk9 hr9
  obtain ⟨q0, q1, -, -, ql⟩ := (XS8.out.below hb9).tl.tl.tl.tl.tl.hd.facts
  obtain ⟨p0, p1, -, -, pl⟩ := (XS8.out.below hb9).tl.tl.tl.tl.tl.tl.hd.facts
  clear hb9
  obtain ⟨za, ea⟩ := O4.out.same O7.out
  obtain ⟨zb, eb⟩ := O5.out.same O8.out
  obtain ⟨zc, ec⟩ := O6.out.same O9.out
  subst za ea zb eb zc ec
  clear q0 q1 ql p0 p1 pl
  have F1 := Lib.hid O4.out.fit
  have F2 := Lib.hid O5.out.fit
  have F3 := Lib.hid O6.out.fit
  have XSa := Lib.hid XS9.out.drew
  have RSa := Lib.hid RS9.out.drew
  have VXa := Lib.hid VX9.out.drew
  have VYa := Lib.hid VY9.out.drew
  have HBa := Lib.hid HB9.out.drew
  have KS : Hid (∀ W, Bxs W [(w9.heap.size, s9, A9, n9, c9), (w8.heap.size, s8, A8, n8, c8), (w7.heap.size, s7, A7, n7, c7), (w6.heap.size, s6, A6, n6, c6), (w5.heap.size, s5, A5, n5, c5), (w4.heap.size, s4, A4, n4, c4), (w.heap.size, s, A, xs.length, ca), (w.heap.size + 1, t, B, ys.length, cb)] → W.cell? ⟨w.heap.size, 0, none⟩ = some (.bool s) ∧ W.cell? ⟨w.heap.size, 1, none⟩ = some (.slice A xs.length ca) ∧ W.cell? ⟨w.heap.size + 1, 0, none⟩ = some (.bool t) ∧ W.cell? ⟨w.heap.size + 1, 1, none⟩ = some (.slice B ys.length cb) ∧ W.cell? ⟨w4.heap.size, 0, none⟩ = some (.bool s4) ∧ W.cell? ⟨w4.heap.size, 1, none⟩ = some (.slice A4 n4 c4) ∧ W.cell? ⟨w5.heap.size, 0, none⟩ = some (.bool s5) ∧ W.cell? ⟨w5.heap.size, 1, none⟩ = some (.slice A5 n5 c5) ∧ W.cell? ⟨w6.heap.size, 0, none⟩ = some (.bool s6) ∧ W.cell? ⟨w6.heap.size, 1, none⟩ = some (.slice A6 n6 c6) ∧ W.cell? ⟨w7.heap.size, 0, none⟩ = some (.bool s7) ∧ W.cell? ⟨w7.heap.size, 1, none⟩ = some (.slice A7 n7 c7) ∧ W.cell? ⟨w8.heap.size, 0, none⟩ = some (.bool s8) ∧ W.cell? ⟨w8.heap.size, 1, none⟩ = some (.slice A8 n8 c8) ∧ W.cell? ⟨w9.heap.size, 0, none⟩ = some (.bool s9) ∧ W.cell? ⟨w9.heap.size, 1, none⟩ = some (.slice A9 n9 c9)) := Lib.hid (fun W h => ⟨(h.tl.tl.tl.tl.tl.tl.hd).c0, (h.tl.tl.tl.tl.tl.tl.hd).c1, (h.tl.tl.tl.tl.tl.tl.tl.hd).c0, (h.tl.tl.tl.tl.tl.tl.tl.hd).c1, (h.tl.tl.tl.tl.tl.hd).c0, (h.tl.tl.tl.tl.tl.hd).c1, (h.tl.tl.tl.tl.hd).c0, (h.tl.tl.tl.tl.hd).c1, (h.tl.tl.tl.hd).c0, (h.tl.tl.tl.hd).c1, (h.tl.tl.hd).c0, (h.tl.tl.hd).c1, (h.tl.hd).c0, (h.tl.hd).c1, (h.hd).c0, (h.hd).c1⟩)
  have D1 := Lib.hid (rsame2_yes (RSa.out.tl.tl.tl.tl.tl.hd) (RSa.out.tl.tl.hd) F1.out)
  go_wp2
  go_region_held3 (fun W => W.cell? ⟨w.heap.size, 0, none⟩ = some (.bool s) ∧ W.cell? ⟨w.heap.size, 1, none⟩ = some (.slice A xs.length ca) ∧ W.cell? ⟨w.heap.size + 1, 0, none⟩ = some (.bool t) ∧ W.cell? ⟨w.heap.size + 1, 1, none⟩ = some (.slice B ys.length cb) ∧ W.cell? ⟨w4.heap.size, 0, none⟩ = some (.bool s4) ∧ W.cell? ⟨w4.heap.size, 1, none⟩ = some (.slice A4 n4 c4) ∧ W.cell? ⟨w5.heap.size, 0, none⟩ = some (.bool s5) ∧ W.cell? ⟨w5.heap.size, 1, none⟩ = some (.slice A5 n5 c5) ∧ W.cell? ⟨w6.heap.size, 0, none⟩ = some (.bool s6) ∧ W.cell? ⟨w6.heap.size, 1, none⟩ = some (.slice A6 n6 c6) ∧ W.cell? ⟨w7.heap.size, 0, none⟩ = some (.bool s7) ∧ W.cell? ⟨w7.heap.size, 1, none⟩ = some (.slice A7 n7 c7) ∧ W.cell? ⟨w8.heap.size, 0, none⟩ = some (.bool s8) ∧ W.cell? ⟨w8.heap.size, 1, none⟩ = some (.slice A8 n8 c8) ∧ W.cell? ⟨w9.heap.size, 0, none⟩ = some (.bool s9) ∧ W.cell? ⟨w9.heap.size, 1, none⟩ = some (.slice A9 n9 c9))
    ((exact KS.out _ (Hid.out (by assumption))))
    (first
      | (go_at_call 27; (with_reducible refine D1.out.mono ?_); rintro e v1 ⟨rfl, hbz⟩; have XSb := Lib.hid (XSa.out.below hbz); have HBb := Lib.hid (HBa.out.trans (hbz.mono HBa.out.size)); have RSb := Lib.hid (RSa.out.keep hbz); have VXb := Lib.hid (VXa.out.keep hbz); have VYb := Lib.hid (VYa.out.keep hbz); have D2 := Lib.hid (rsame2_yes (RSb.out.tl.tl.tl.tl.hd) (RSb.out.tl.hd) F2.out); clear hbz)
      | (go_at_call 27; (with_reducible refine D2.out.mono ?_); rintro e v2 ⟨rfl, hbz⟩; have XSc := Lib.hid (XSb.out.below hbz); have HBc := Lib.hid (HBb.out.trans (hbz.mono HBb.out.size)); have RSc := Lib.hid (RSb.out.keep hbz); have VXc := Lib.hid (VXb.out.keep hbz); have VYc := Lib.hid (VYb.out.keep hbz); have D3 := Lib.hid (rsame2_yes (RSc.out.tl.tl.tl.hd) (RSc.out.hd) F3.out); clear hbz)
      | (go_at_call 27; (with_reducible refine D3.out.mono ?_); rintro e v3 ⟨rfl, hbz⟩; have XSd := Lib.hid (XSc.out.below hbz); have HBd := Lib.hid (HBc.out.trans (hbz.mono HBc.out.size)); have RSd := Lib.hid (RSc.out.keep hbz); have VXd := Lib.hid (VXc.out.keep hbz); have VYd := Lib.hid (VYc.out.keep hbz); have D4 := Lib.hid (ecmp_int VXd.out VYd.out NX.out NY.out); clear hbz)
      | (go_at_call 28; (with_reducible refine D4.out.mono ?_); rintro e v4 ⟨rfl, hbz⟩; have XSe := Lib.hid (XSd.out.below hbz); have HBe := Lib.hid (HBd.out.trans (hbz.mono HBd.out.size)); have RSe := Lib.hid (RSd.out.keep hbz); have VXe := Lib.hid (VXd.out.keep hbz); have VYe := Lib.hid (VYd.out.keep hbz); have D5 := Lib.hid (rcmp2_int VXe.out.toR VYe.out.toR NX.out NY.out); clear hbz)
      | (go_at_call 29; (with_reducible refine D5.out.mono ?_); rintro e v5 ⟨rfl, hbz⟩; have XSf := Lib.hid (XSe.out.below hbz); have HBf := Lib.hid (HBe.out.trans (hbz.mono HBe.out.size)); have RSf := Lib.hid (RSe.out.keep hbz); have VXf := Lib.hid (VXe.out.keep hbz); have VYf := Lib.hid (VYe.out.keep hbz); have D6 := Lib.hid (esame_int VXf.out VYf.out NX.out NY.out); clear hbz)
      | (go_at_call 17; (with_reducible refine D6.out.mono ?_); rintro e v6 ⟨rfl, hbz⟩; have XSg := Lib.hid (XSf.out.below hbz); have HBg := Lib.hid (HBf.out.trans (hbz.mono HBf.out.size)); have RSg := Lib.hid (RSf.out.keep hbz); have VXg := Lib.hid (VXf.out.keep hbz); have VYg := Lib.hid (VYf.out.keep hbz); have D7 := Lib.hid (rsame2_int VXg.out.toR VYg.out.toR (fit_of NX.out)); clear hbz)
      | (go_at_call 27; (with_reducible refine D7.out.mono ?_); rintro e v7 ⟨rfl, hbz⟩; have XSh := Lib.hid (XSg.out.below hbz); have HBh := Lib.hid (HBg.out.trans (hbz.mono HBg.out.size)); have RSh := Lib.hid (RSg.out.keep hbz); have VXh := Lib.hid (VXg.out.keep hbz); have VYh := Lib.hid (VYg.out.keep hbz); have D8 := Lib.hid (eneg_int VXh.out NX.out); clear hbz)
      | (go_at_call 30; (with_reducible refine D8.out.mono ?_); intro e v8 hr; obtain ⟨sn, An, nn, cn, rfl, hvn, hbz⟩ := hr.gen; have XSi := Lib.hid (XSh.out.below hbz); have HBi := Lib.hid (HBh.out.trans (hbz.mono HBh.out.size)); have RSi := Lib.hid (RSh.out.keep hbz); have VXi := Lib.hid (VXh.out.keep hbz); have VYi := Lib.hid (VYh.out.keep hbz); have VN := Lib.hid hvn; clear hr hvn; have D9 := Lib.hid (rneg_int VXi.out.toR (fit_of NX.out)); clear hbz)
      | (go_at_call 31; (with_reducible refine D9.out.mono ?_); rintro e v9 ⟨sm, Am, nm, cm, rfl, hvm, hbz⟩; have XSj := Lib.hid (XSi.out.below hbz); have HBj := Lib.hid (HBi.out.trans (hbz.mono HBi.out.size)); have RSj := Lib.hid (RSi.out.keep hbz); have VXj := Lib.hid (VXi.out.keep hbz); have VYj := Lib.hid (VYi.out.keep hbz); have D10 := Lib.hid (rsame2_yes (VN.out.keep hbz).toR hvm (big_neg NX.out)); clear hvm; clear hbz)
      | (go_at_call 27; (with_reducible refine D10.out.mono ?_); rintro e v10 ⟨rfl, hbz⟩; have XSk := Lib.hid (XSj.out.below hbz); have HBk := Lib.hid (HBj.out.trans (hbz.mono HBj.out.size)); clear hbz))
  all_goals
    go_wp2
    go_ret
    exact ⟨rfl, HBk.out⟩

theorem sums_walk (s t : Bool) (A B : Option Addr) (ca cb : Nat) (xs ys : List Nat) (w : World) (ha : Rd w A xs) (hb : Rd w B ys) (hx : Lm xs) (hy : Lm ys) (hca : xs.length ≤ ca) (hcb : ys.length ≤ cb)
    (hcam : ca ≤ 9223372036854775807) (hcbm : cb ≤ 9223372036854775807) (hna : A = none → xs.length = 0 ∧ ca = 0) (hnb : B = none → ys.length = 0 ∧ cb = 0)
    (htab : Lib.TabIs Tryd.prog w "internal/strconv.uint64pow10" .u64 Lib.pow10Tab) :
    Calls Tryd.prog 5 #[.agg #[.bool s, .slice A xs.length ca], .agg #[.bool t, .slice B ys.length cb]] w fun e w' => e = .returned (.bool true) ∧ Below w.heap.size w w' := by
  by_cases r1 : rightB s xs = true
  · by_cases r2 : rightB t ys = true
    · exact sums_main s t A B ca cb xs ys w ha hb hx hy hca hcb hcam hcbm hna hnb htab r1 r2
    · exact sums_b s t A B ca cb xs ys w ha hb hx hy hca hcb hcam hcbm hna hnb htab r1 (by simpa using r2)
  · exact sums_a s t A B ca cb xs ys w ha hb hx hy hca hcb hcam hcbm hna hnb htab (by simpa using r1)

end LM
end Go.Proofs.YtfckjapedjjhpaaDoor
