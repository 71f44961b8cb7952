/- The walk of the statement ExactGcds. -/
import Derived.Test.YtfckjapedjjhpaaDoorExactV
import Derived.Deep.RegionHeld3
namespace Go.Proofs.YtfckjapedjjhpaaDoor
open Go.RowKit
namespace LM
set_option linter.unusedVariables false

theorem gcd_fit {x y : Int} (hx : ¬ BigI x) (hy : ¬ BigI y) : ¬ BigI (Nat.gcd x.natAbs y.natAbs : Nat) := by
  unfold BigI at *
  rw [Int.natAbs_natCast]
  intro hb
  rcases Nat.eq_zero_or_pos x.natAbs with h | h
  · rw [h, Nat.gcd_zero_left] at hb
    exact hy hb
  · exact hx (hb.mono (Nat.gcd_le_left _ h))

set_option maxRecDepth 10000000 in
set_option maxHeartbeats 8000000 in
theorem gcds_a (s t : Bool) (A B : Option Addr) (ca cb : Nat) (xs ys : List Nat) (w : World) (ha : Rd w A xs) (hb : Rd w B ys) (hx : Lm xs) (hy : Lm ys) (hca : xs.length ≤ ca) (hcb : ys.length ≤ cb)
    (hcam : ca ≤ 9223372036854775807) (hcbm : cb ≤ 9223372036854775807) (hna : A = none → xs.length = 0 ∧ ca = 0) (hnb : B = none → ys.length = 0 ∧ cb = 0)
    (htab : Lib.TabIs Tryd.prog w "internal/strconv.uint64pow10" .u64 Lib.pow10Tab) (hrx : rightB s xs = false) :
    Calls Tryd.prog 7 #[.agg #[.bool s, .slice A xs.length ca], .agg #[.bool t, .slice B ys.length cb]] w fun e w' => e = .returned (.bool true) ∧ Below w.heap.size w w' := by
  obtain ⟨hb0, x0, y0⟩ := newp2 w s t A B xs.length ca ys.length cb
  have HB0 := Lib.hid hb0
  have XS0 := Lib.hid ((Bxs.nil.cons y0).cons x0)
  have HAL := Lib.hid (ealive_any _ (tab_below htab hb0))
  have HTAB := Lib.hid (tab_below htab hb0)
  have HA0 := Lib.hid (ha.below hb0)
  have HBB0 := Lib.hid (hb.below hb0)
  have HX := Lib.hid hx
  have HY := Lib.hid hy
  have HNA := Lib.hid hna
  have HNB := Lib.hid hnb
  have HRX := Lib.hid hrx
  clear hb0 x0 y0 ha hb hx hy hna hnb htab hrx
  go_enter Tryd.func7, Tryd.ntmps7
  go_wp2_with fail
  refine HAL.out.mono ?_
  rintro e w1 ⟨rfl, hb1⟩
  have XS1 := Lib.hid (XS0.out.below hb1)
  have HB1 := Lib.hid (HB0.out.trans (hb1.mono HB0.out.size))
  have HA1 := Lib.hid (HA0.out.below hb1)
  have HBB1 := Lib.hid (HBB0.out.below hb1)
  have R1 := Lib.hid (rright_any s A ca xs w1 HA1.out HX.out hca hcam HNA.out)
  rw [HRX.out] at R1
  have HTAB1 := Lib.hid (tab_below HTAB.out hb1)
  clear hb1
  obtain ⟨q0, q1, -, -, ql⟩ := XS1.out.hd.facts
  go_wp2_with fail
  refine R1.out.mono ?_
  rintro e w2 ⟨rfl, hb2⟩
  have HB2 := Lib.hid (HB1.out.trans (hb2.mono HB1.out.size))
  clear hb2 q0 q1 ql
  go_wp2
  go_ret
  exact ⟨rfl, HB2.out⟩

set_option maxRecDepth 10000000 in
set_option maxHeartbeats 8000000 in
theorem gcds_b (s t : Bool) (A B : Option Addr) (ca cb : Nat) (xs ys : List Nat) (w : World) (ha : Rd w A xs) (hb : Rd w B ys) (hx : Lm xs) (hy : Lm ys) (hca : xs.length ≤ ca) (hcb : ys.length ≤ cb)
    (hcam : ca ≤ 9223372036854775807) (hcbm : cb ≤ 9223372036854775807) (hna : A = none → xs.length = 0 ∧ ca = 0) (hnb : B = none → ys.length = 0 ∧ cb = 0)
    (htab : Lib.TabIs Tryd.prog w "internal/strconv.uint64pow10" .u64 Lib.pow10Tab) (hrx : rightB s xs = true) (hry : rightB t ys = false) :
    Calls Tryd.prog 7 #[.agg #[.bool s, .slice A xs.length ca], .agg #[.bool t, .slice B ys.length cb]] w fun e w' => e = .returned (.bool true) ∧ Below w.heap.size w w' := by
  obtain ⟨hb0, x0, y0⟩ := newp2 w s t A B xs.length ca ys.length cb
  have HB0 := Lib.hid hb0
  have XS0 := Lib.hid ((Bxs.nil.cons y0).cons x0)
  have HAL := Lib.hid (ealive_any _ (tab_below htab hb0))
  have HTAB := Lib.hid (tab_below htab hb0)
  have HA0 := Lib.hid (ha.below hb0)
  have HBB0 := Lib.hid (hb.below hb0)
  have HX := Lib.hid hx
  have HY := Lib.hid hy
  have HNA := Lib.hid hna
  have HNB := Lib.hid hnb
  have HRX := Lib.hid hrx
  have HRY := Lib.hid hry
  clear hb0 x0 y0 ha hb hx hy hna hnb htab hrx hry
  go_enter Tryd.func7, Tryd.ntmps7
  go_wp2_with fail
  refine HAL.out.mono ?_
  rintro e w1 ⟨rfl, hb1⟩
  have XS1 := Lib.hid (XS0.out.below hb1)
  have HB1 := Lib.hid (HB0.out.trans (hb1.mono HB0.out.size))
  have HA1 := Lib.hid (HA0.out.below hb1)
  have HBB1 := Lib.hid (HBB0.out.below hb1)
  have R1 := Lib.hid (rright_any s A ca xs w1 HA1.out HX.out hca hcam HNA.out)
  rw [HRX.out] at R1
  have HTAB1 := Lib.hid (tab_below HTAB.out hb1)
  clear hb1
  obtain ⟨q0, q1, -, -, ql⟩ := XS1.out.hd.facts
  go_wp2_with fail
  refine R1.out.mono ?_
  rintro e w2 ⟨rfl, hb2⟩
  have HB2 := Lib.hid (HB1.out.trans (hb2.mono HB1.out.size))
  have XS2 := Lib.hid (XS1.out.below hb2)
  have HA2 := Lib.hid (HA1.out.below hb2)
  have HBB2 := Lib.hid (HBB1.out.below hb2)
  have R2 := Lib.hid (rright_any t B cb ys w2 HBB2.out HY.out hcb hcbm HNB.out)
  rw [HRY.out] at R2
  have HTAB2 := Lib.hid (tab_below HTAB1.out hb2)
  clear hb2 q0 q1 ql
  obtain ⟨q0, q1, -, -, ql⟩ := XS2.out.tl.hd.facts
  go_wp2_with fail
  refine R2.out.mono ?_
  rintro e w3 ⟨rfl, hb3⟩
  have HB3 := Lib.hid (HB2.out.trans (hb3.mono HB2.out.size))
  clear hb3 q0 q1 ql
  go_wp2
  go_ret
  exact ⟨rfl, HB3.out⟩

set_option maxRecDepth 10000000 in
set_option maxHeartbeats 8000000 in
theorem gcds_c (s t : Bool) (A B : Option Addr) (ca cb : Nat) (xs ys : List Nat) (w : World) (ha : Rd w A xs) (hb : Rd w B ys) (hx : Lm xs) (hy : Lm ys) (hca : xs.length ≤ ca) (hcb : ys.length ≤ cb)
    (hcam : ca ≤ 9223372036854775807) (hcbm : cb ≤ 9223372036854775807) (hna : A = none → xs.length = 0 ∧ ca = 0) (hnb : B = none → ys.length = 0 ∧ cb = 0)
    (htab : Lib.TabIs Tryd.prog w "internal/strconv.uint64pow10" .u64 Lib.pow10Tab) (hrx : rightB s xs = true) (hry : rightB t ys = true) (hl : 8 < xs.length) :
    Calls Tryd.prog 7 #[.agg #[.bool s, .slice A xs.length ca], .agg #[.bool t, .slice B ys.length cb]] w fun e w' => e = .returned (.bool true) ∧ Below w.heap.size w w' := by
  obtain ⟨hb0, x0, y0⟩ := newp2 w s t A B xs.length ca ys.length cb
  have HB0 := Lib.hid hb0
  have XS0 := Lib.hid ((Bxs.nil.cons y0).cons x0)
  have HAL := Lib.hid (ealive_any _ (tab_below htab hb0))
  have HTAB := Lib.hid (tab_below htab hb0)
  have HA0 := Lib.hid (ha.below hb0)
  have HBB0 := Lib.hid (hb.below hb0)
  have HX := Lib.hid hx
  have HY := Lib.hid hy
  have HNA := Lib.hid hna
  have HNB := Lib.hid hnb
  have HRX := Lib.hid hrx
  have HRY := Lib.hid hry
  clear hb0 x0 y0 ha hb hx hy hna hnb htab hrx hry
  go_enter Tryd.func7, Tryd.ntmps7
  go_wp2_with fail
  refine HAL.out.mono ?_
  rintro e w1 ⟨rfl, hb1⟩
  have XS1 := Lib.hid (XS0.out.below hb1)
  have HB1 := Lib.hid (HB0.out.trans (hb1.mono HB0.out.size))
  have HA1 := Lib.hid (HA0.out.below hb1)
  have HBB1 := Lib.hid (HBB0.out.below hb1)
  have R1 := Lib.hid (rright_any s A ca xs w1 HA1.out HX.out hca hcam HNA.out)
  rw [HRX.out] at R1
  have HTAB1 := Lib.hid (tab_below HTAB.out hb1)
  clear hb1
  obtain ⟨q0, q1, -, -, ql⟩ := XS1.out.hd.facts
  go_wp2_with fail
  refine R1.out.mono ?_
  rintro e w2 ⟨rfl, hb2⟩
  have HB2 := Lib.hid (HB1.out.trans (hb2.mono HB1.out.size))
  have XS2 := Lib.hid (XS1.out.below hb2)
  have HA2 := Lib.hid (HA1.out.below hb2)
  have HBB2 := Lib.hid (HBB1.out.below hb2)
  have R2 := Lib.hid (rright_any t B cb ys w2 HBB2.out HY.out hcb hcbm HNB.out)
  rw [HRY.out] at R2
  have HTAB2 := Lib.hid (tab_below HTAB1.out hb2)
  clear hb2 q0 q1 ql
  obtain ⟨q0, q1, -, -, ql⟩ := XS2.out.tl.hd.facts
  go_wp2_with fail
  refine R2.out.mono ?_
  rintro e w3 ⟨rfl, hb3⟩
  have HB3 := Lib.hid (HB2.out.trans (hb3.mono HB2.out.size))
  have dnxs : decide (8 < xs.length) = true := decide_eq_true (by omega)
  have dixs : decide (8 < (xs.length : Int)) = true := decide_eq_true (by omega)
  have XS3 := Lib.hid (XS2.out.below hb3)
  clear hb3 q0 q1 ql
  obtain ⟨q0, q1, -, -, ql⟩ := XS3.out.hd.facts
  obtain ⟨p0, p1, -, -, pl⟩ := XS3.out.tl.hd.facts
  go_wp2
  go_ret
  exact ⟨rfl, HB3.out⟩

set_option maxRecDepth 10000000 in
set_option maxHeartbeats 8000000 in
theorem gcds_d (s t : Bool) (A B : Option Addr) (ca cb : Nat) (xs ys : List Nat) (w : World) (ha : Rd w A xs) (hb : Rd w B ys) (hx : Lm xs) (hy : Lm ys) (hca : xs.length ≤ ca) (hcb : ys.length ≤ cb)
    (hcam : ca ≤ 9223372036854775807) (hcbm : cb ≤ 9223372036854775807) (hna : A = none → xs.length = 0 ∧ ca = 0) (hnb : B = none → ys.length = 0 ∧ cb = 0)
    (htab : Lib.TabIs Tryd.prog w "internal/strconv.uint64pow10" .u64 Lib.pow10Tab) (hrx : rightB s xs = true) (hry : rightB t ys = true) (hl : ¬ 8 < xs.length) (hm : 8 < ys.length) :
    Calls Tryd.prog 7 #[.agg #[.bool s, .slice A xs.length ca], .agg #[.bool t, .slice B ys.length cb]] w fun e w' => e = .returned (.bool true) ∧ Below w.heap.size w w' := by
  obtain ⟨hb0, x0, y0⟩ := newp2 w s t A B xs.length ca ys.length cb
  have HB0 := Lib.hid hb0
  have XS0 := Lib.hid ((Bxs.nil.cons y0).cons x0)
  have HAL := Lib.hid (ealive_any _ (tab_below htab hb0))
  have HTAB := Lib.hid (tab_below htab hb0)
  have HA0 := Lib.hid (ha.below hb0)
  have HBB0 := Lib.hid (hb.below hb0)
  have HX := Lib.hid hx
  have HY := Lib.hid hy
  have HNA := Lib.hid hna
  have HNB := Lib.hid hnb
  have HRX := Lib.hid hrx
  have HRY := Lib.hid hry
  clear hb0 x0 y0 ha hb hx hy hna hnb htab hrx hry
  go_enter Tryd.func7, Tryd.ntmps7
  go_wp2_with fail
  refine HAL.out.mono ?_
  rintro e w1 ⟨rfl, hb1⟩
  have XS1 := Lib.hid (XS0.out.below hb1)
  have HB1 := Lib.hid (HB0.out.trans (hb1.mono HB0.out.size))
  have HA1 := Lib.hid (HA0.out.below hb1)
  have HBB1 := Lib.hid (HBB0.out.below hb1)
  have R1 := Lib.hid (rright_any s A ca xs w1 HA1.out HX.out hca hcam HNA.out)
  rw [HRX.out] at R1
  have HTAB1 := Lib.hid (tab_below HTAB.out hb1)
  clear hb1
  obtain ⟨q0, q1, -, -, ql⟩ := XS1.out.hd.facts
  go_wp2_with fail
  refine R1.out.mono ?_
  rintro e w2 ⟨rfl, hb2⟩
  have HB2 := Lib.hid (HB1.out.trans (hb2.mono HB1.out.size))
  have XS2 := Lib.hid (XS1.out.below hb2)
  have HA2 := Lib.hid (HA1.out.below hb2)
  have HBB2 := Lib.hid (HBB1.out.below hb2)
  have R2 := Lib.hid (rright_any t B cb ys w2 HBB2.out HY.out hcb hcbm HNB.out)
  rw [HRY.out] at R2
  have HTAB2 := Lib.hid (tab_below HTAB1.out hb2)
  clear hb2 q0 q1 ql
  obtain ⟨q0, q1, -, -, ql⟩ := XS2.out.tl.hd.facts
  go_wp2_with fail
  refine R2.out.mono ?_
  rintro e w3 ⟨rfl, hb3⟩
  have HB3 := Lib.hid (HB2.out.trans (hb3.mono HB2.out.size))
  have dnxs : decide (8 < xs.length) = false := decide_eq_false (by omega)
  have dixs : decide (8 < (xs.length : Int)) = false := decide_eq_false (by omega)
  have dnys : decide (8 < ys.length) = true := decide_eq_true (by omega)
  have diys : decide (8 < (ys.length : Int)) = true := decide_eq_true (by omega)
  have XS3 := Lib.hid (XS2.out.below hb3)
  clear hb3 q0 q1 ql
  obtain ⟨q0, q1, -, -, ql⟩ := XS3.out.hd.facts
  obtain ⟨p0, p1, -, -, pl⟩ := XS3.out.tl.hd.facts
  go_wp2
  go_ret
  exact ⟨rfl, HB3.out⟩

set_option maxRecDepth 10000000 in
set_option maxHeartbeats 8000000 in
theorem gcds_main (s t : Bool) (A B : Option Addr) (ca cb : Nat) (xs ys : List Nat) (w : World) (ha : Rd w A xs) (hb : Rd w B ys) (hx : Lm xs) (hy : Lm ys) (hca : xs.length ≤ ca) (hcb : ys.length ≤ cb)
    (hcam : ca ≤ 9223372036854775807) (hcbm : cb ≤ 9223372036854775807) (hna : A = none → xs.length = 0 ∧ ca = 0) (hnb : B = none → ys.length = 0 ∧ cb = 0)
    (htab : Lib.TabIs Tryd.prog w "internal/strconv.uint64pow10" .u64 Lib.pow10Tab) (hrx : rightB s xs = true) (hry : rightB t ys = true) (hl : ¬ 8 < xs.length) (hm : ¬ 8 < ys.length) :
    Calls Tryd.prog 7 #[.agg #[.bool s, .slice A xs.length ca], .agg #[.bool t, .slice B ys.length cb]] w fun e w' => e = .returned (.bool true) ∧ Below w.heap.size w w' := by
  obtain ⟨hb0, x0, y0⟩ := newp2 w s t A B xs.length ca ys.length cb
  have HB0 := Lib.hid hb0
  have XS0 := Lib.hid ((Bxs.nil.cons y0).cons x0)
  have HAL := Lib.hid (ealive_any _ (tab_below htab hb0))
  have HTAB := Lib.hid (tab_below htab hb0)
  have HA0 := Lib.hid (ha.below hb0)
  have HBB0 := Lib.hid (hb.below hb0)
  have HX := Lib.hid hx
  have HY := Lib.hid hy
  have HNA := Lib.hid hna
  have HNB := Lib.hid hnb
  have HRX := Lib.hid hrx
  have HRY := Lib.hid hry
  clear hb0 x0 y0 ha hb hx hy hna hnb htab hrx hry
  go_enter Tryd.func7, Tryd.ntmps7
  go_wp2_with fail
  refine HAL.out.mono ?_
  rintro e w1 ⟨rfl, hb1⟩
  have XS1 := Lib.hid (XS0.out.below hb1)
  have HB1 := Lib.hid (HB0.out.trans (hb1.mono HB0.out.size))
  have HA1 := Lib.hid (HA0.out.below hb1)
  have HBB1 := Lib.hid (HBB0.out.below hb1)
  have R1 := Lib.hid (rright_any s A ca xs w1 HA1.out HX.out hca hcam HNA.out)
  rw [HRX.out] at R1
  have HTAB1 := Lib.hid (tab_below HTAB.out hb1)
  clear hb1
  obtain ⟨q0, q1, -, -, ql⟩ := XS1.out.hd.facts
  go_wp2_with fail
  refine R1.out.mono ?_
  rintro e w2 ⟨rfl, hb2⟩
  have HB2 := Lib.hid (HB1.out.trans (hb2.mono HB1.out.size))
  have XS2 := Lib.hid (XS1.out.below hb2)
  have HA2 := Lib.hid (HA1.out.below hb2)
  have HBB2 := Lib.hid (HBB1.out.below hb2)
  have R2 := Lib.hid (rright_any t B cb ys w2 HBB2.out HY.out hcb hcbm HNB.out)
  rw [HRY.out] at R2
  have HTAB2 := Lib.hid (tab_below HTAB1.out hb2)
  clear hb2 q0 q1 ql
  obtain ⟨q0, q1, -, -, ql⟩ := XS2.out.tl.hd.facts
  go_wp2_with fail
  refine R2.out.mono ?_
  rintro e w3 ⟨rfl, hb3⟩
  have HB3 := Lib.hid (HB2.out.trans (hb3.mono HB2.out.size))
  have dnxs : decide (8 < xs.length) = false := decide_eq_false (by omega)
  have dixs : decide (8 < (xs.length : Int)) = false := decide_eq_false (by omega)
  have dnys : decide (8 < ys.length) = false := decide_eq_false (by omega)
  have diys : decide (8 < (ys.length : Int)) = false := decide_eq_false (by omega)
  have XS3 := Lib.hid (XS2.out.below hb3)
  have HTAB3 := Lib.hid (tab_below HTAB2.out hb3)
  obtain ⟨hvx, nbx⟩ := intV_of HRX.out (HA2.out.below hb3) HX.out hca hcam
  obtain ⟨hvy, nby⟩ := intV_of HRY.out (HBB2.out.below hb3) HY.out hcb hcbm
  have VX3 := Lib.hid hvx
  have VY3 := Lib.hid hvy
  have NX := Lib.hid nbx
  have NY := Lib.hid nby
  clear hb3 q0 q1 ql hvx hvy nbx nby
  generalize sg s (val xs) = x at *
  generalize sg t (val ys) = y at *
  obtain ⟨q0, q1, -, -, ql⟩ := XS3.out.hd.facts
  obtain ⟨p0, p1, -, -, pl⟩ := XS3.out.tl.hd.facts
  have XS4 := Lib.hid XS3.out.drew
  have VX4 := Lib.hid VX3.out.drew
  have VY4 := Lib.hid VY3.out.drew
  have HB4 := Lib.hid HB3.out.drew
  have KS : Hid (∀ W, Bxs W [(w.heap.size, s, A, xs.length, ca), (w.heap.size + 1, t, B, ys.length, cb)] → W.cell? ⟨w.heap.size, 0, none⟩ = some (.bool s) ∧ W.cell? ⟨w.heap.size, 1, none⟩ = some (.slice A xs.length ca) ∧ W.cell? ⟨w.heap.size + 1, 0, none⟩ = some (.bool t) ∧ W.cell? ⟨w.heap.size + 1, 1, none⟩ = some (.slice B ys.length cb)) := Lib.hid (fun W h => ⟨h.hd.c0, h.hd.c1, h.tl.hd.c0, h.tl.hd.c1⟩)
  have C1 := Lib.hid (egcd_int VX4.out VY4.out NX.out NY.out)
  have NG : Hid (¬ BigI (Nat.gcd x.natAbs y.natAbs : Nat)) := Lib.hid (gcd_fit NX.out NY.out)
  go_wp2
  go_region_held3 (fun W => W.cell? ⟨w.heap.size, 0, none⟩ = some (.bool s) ∧ W.cell? ⟨w.heap.size, 1, none⟩ = some (.slice A xs.length ca) ∧ W.cell? ⟨w.heap.size + 1, 0, none⟩ = some (.bool t) ∧ W.cell? ⟨w.heap.size + 1, 1, none⟩ = some (.slice B ys.length cb))
    ((exact KS.out _ (Hid.out (by assumption))))
    (first
      | (go_at_call 36; (with_reducible refine C1.out.mono ?_); intro e w5 hr; obtain ⟨s5, A5, n5, c5, rfl, hv5, hb5⟩ := hr.gen; have XS5 := Lib.hid (XS4.out.below hb5); have HB5 := Lib.hid (HB4.out.trans (hb5.mono HB4.out.size)); have HV5 := Lib.hid hv5; have C2 := Lib.hid (rgcd_int (VX4.out.keep hb5).toR (VY4.out.keep hb5).toR NX.out NY.out); clear hr hv5 hb5)
      | (go_at_call 37; (with_reducible refine C2.out.mono ?_); rintro e w6 ⟨s6, A6, n6, c6, rfl, hv6, hb6⟩; have XS6 := Lib.hid (XS5.out.below hb6); have HB6 := Lib.hid (HB5.out.trans (hb6.mono HB5.out.size)); have C3 := Lib.hid (rsame2_yes (HV5.out.keep hb6).toR hv6 NG.out); clear hv6 hb6)
      | (go_at_call 27; (with_reducible refine C3.out.mono ?_); rintro e w7 ⟨rfl, hb7⟩; have XS7 := Lib.hid (XS6.out.below hb7); have HB7 := Lib.hid (HB6.out.trans (hb7.mono HB6.out.size)); clear hb7))
  all_goals
    go_wp2
    go_ret
    exact ⟨rfl, HB7.out⟩

theorem gcds_walk (s t : Bool) (A B : Option Addr) (ca cb : Nat) (xs ys : List Nat) (w : World) (ha : Rd w A xs) (hb : Rd w B ys) (hx : Lm xs) (hy : Lm ys) (hca : xs.length ≤ ca) (hcb : ys.length ≤ cb)
    (hcam : ca ≤ 9223372036854775807) (hcbm : cb ≤ 9223372036854775807) (hna : A = none → xs.length = 0 ∧ ca = 0) (hnb : B = none → ys.length = 0 ∧ cb = 0)
    (htab : Lib.TabIs Tryd.prog w "internal/strconv.uint64pow10" .u64 Lib.pow10Tab) :
    Calls Tryd.prog 7 #[.agg #[.bool s, .slice A xs.length ca], .agg #[.bool t, .slice B ys.length cb]] w fun e w' => e = .returned (.bool true) ∧ Below w.heap.size w w' := by
  by_cases r1 : rightB s xs = true
  · by_cases r2 : rightB t ys = true
    · by_cases l1 : 8 < xs.length
      · exact gcds_c s t A B ca cb xs ys w ha hb hx hy hca hcb hcam hcbm hna hnb htab r1 r2 l1
      · by_cases l2 : 8 < ys.length
        · exact gcds_d s t A B ca cb xs ys w ha hb hx hy hca hcb hcam hcbm hna hnb htab r1 r2 l1 l2
        · exact gcds_main s t A B ca cb xs ys w ha hb hx hy hca hcb hcam hcbm hna hnb htab r1 r2 l1 l2
    · exact gcds_b s t A B ca cb xs ys w ha hb hx hy hca hcb hcam hcbm hna hnb htab r1 (by simpa using r2)
  · exact gcds_a s t A B ca cb xs ys w ha hb hx hy hca hcb hcam hcbm hna hnb htab (by simpa using r1)

end LM
end Go.Proofs.YtfckjapedjjhpaaDoor
