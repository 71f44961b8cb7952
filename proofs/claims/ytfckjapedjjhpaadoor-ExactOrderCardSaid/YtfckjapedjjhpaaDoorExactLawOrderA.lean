/- The walk of the statement ExactOrder. -/
import Derived.Test.YtfckjapedjjhpaaDoorExactAlive
import Derived.Test.YtfckjapedjjhpaaDoorExactH
import Derived.Test.YtfckjapedjjhpaaDoorExactR
namespace Go.Proofs.YtfckjapedjjhpaaDoor
open Go.RowKit
namespace LM
set_option linter.unusedVariables false

theorem cmpI_add (x y z : Int) : cmpI (x + z) (y + z) = cmpI x y := by
  unfold cmpI
  by_cases h : x < y
  · rw [if_pos h, if_pos (by omega)]
  · rw [if_neg h, if_neg (by omega)]
    by_cases h2 : y < x
    · rw [if_pos h2, if_pos (by omega)]
    · rw [if_neg h2, if_neg (by omega)]
theorem big_neg {z : Int} (h : ¬ BigI z) : ¬ BigI (-z) := by unfold BigI; rw [Int.natAbs_neg]; exact h

set_option maxRecDepth 10000000 in
set_option maxHeartbeats 2000000 in
theorem order_a (s t u : Bool) (A B C : Option Addr) (ca cb cc : Nat) (xs ys zs : List Nat) (w : World) (ha : Rd w A xs) (hb : Rd w B ys) (hc : Rd w C zs) (hx : Lm xs) (hy : Lm ys) (hz : Lm zs) (hca : xs.length ≤ ca) (hcb : ys.length ≤ cb) (hcc : zs.length ≤ cc)
    (hcam : ca ≤ 9223372036854775807) (hcbm : cb ≤ 9223372036854775807) (hccm : cc ≤ 9223372036854775807) (hna : A = none → xs.length = 0 ∧ ca = 0) (hnb : B = none → ys.length = 0 ∧ cb = 0) (hnc : C = none → zs.length = 0 ∧ cc = 0)
    (htab : Lib.TabIs Tryd.prog w "internal/strconv.uint64pow10" .u64 Lib.pow10Tab) (hrx : rightB s xs = false) :
    Calls Tryd.prog 10 #[.agg #[.bool s, .slice A xs.length ca], .agg #[.bool t, .slice B ys.length cb], .agg #[.bool u, .slice C zs.length cc]] w fun e w' => e = .returned (.bool true) ∧ Below w.heap.size w w' := by
  obtain ⟨hb0, x0, y0, z0⟩ := newp3 w s t u A B C xs.length ca ys.length cb zs.length cc
  have HB0 := Lib.hid hb0
  have X0 := Lib.hid x0
  have Y0 := Lib.hid y0
  have Z0 := Lib.hid z0
  have HAL := Lib.hid (ealive_any _ (tab_below htab hb0))
  have HA0 := Lib.hid (ha.below hb0)
  have HBB0 := Lib.hid (hb.below hb0)
  have HC0 := Lib.hid (hc.below hb0)
  have HX := Lib.hid hx
  have HY := Lib.hid hy
  have HZ := Lib.hid hz
  have HNA := Lib.hid hna
  have HNB := Lib.hid hnb
  have HNC := Lib.hid hnc
  have HRX := Lib.hid hrx
  clear hb0 x0 y0 z0 ha hb hc hx hy hz hna hnb hnc htab hrx
  go_enter Tryd.func10, Tryd.ntmps10
  go_wp2_with fail
  refine HAL.out.mono ?_
  rintro e w1 ⟨rfl, hb1⟩
  have X1 := Lib.hid (X0.out.below hb1)
  have Y1 := Lib.hid (Y0.out.below hb1)
  have Z1 := Lib.hid (Z0.out.below hb1)
  have HB1 := Lib.hid (HB0.out.trans (hb1.mono HB0.out.size))
  have R1 := Lib.hid (rright_any s A ca xs w1 (HA0.out.below hb1) HX.out hca hcam HNA.out)
  have HBB1 := Lib.hid (HBB0.out.below hb1)
  have HC1 := Lib.hid (HC0.out.below hb1)
  have HA1 := Lib.hid (HA0.out.below hb1)
  rw [HRX.out] at R1
  clear hb1
  obtain ⟨q0, q1, -, -, ql⟩ := X1.out.facts
  go_wp2_with fail
  refine R1.out.mono ?_
  rintro e w2 ⟨rfl, hb2⟩
  have HB2 := Lib.hid (HB1.out.trans (hb2.mono HB1.out.size))
  clear hb2 q0 q1 ql
  go_wp2
  go_ret
  exact ⟨rfl, HB2.out⟩

set_option maxRecDepth 10000000 in
set_option maxHeartbeats 2000000 in
theorem order_b (s t u : Bool) (A B C : Option Addr) (ca cb cc : Nat) (xs ys zs : List Nat) (w : World) (ha : Rd w A xs) (hb : Rd w B ys) (hc : Rd w C zs) (hx : Lm xs) (hy : Lm ys) (hz : Lm zs) (hca : xs.length ≤ ca) (hcb : ys.length ≤ cb) (hcc : zs.length ≤ cc)
    (hcam : ca ≤ 9223372036854775807) (hcbm : cb ≤ 9223372036854775807) (hccm : cc ≤ 9223372036854775807) (hna : A = none → xs.length = 0 ∧ ca = 0) (hnb : B = none → ys.length = 0 ∧ cb = 0) (hnc : C = none → zs.length = 0 ∧ cc = 0)
    (htab : Lib.TabIs Tryd.prog w "internal/strconv.uint64pow10" .u64 Lib.pow10Tab) (hrx : rightB s xs = true) (hry : rightB t ys = false) :
    Calls Tryd.prog 10 #[.agg #[.bool s, .slice A xs.length ca], .agg #[.bool t, .slice B ys.length cb], .agg #[.bool u, .slice C zs.length cc]] w fun e w' => e = .returned (.bool true) ∧ Below w.heap.size w w' := by
  obtain ⟨hb0, x0, y0, z0⟩ := newp3 w s t u A B C xs.length ca ys.length cb zs.length cc
  have HB0 := Lib.hid hb0
  have X0 := Lib.hid x0
  have Y0 := Lib.hid y0
  have Z0 := Lib.hid z0
  have HAL := Lib.hid (ealive_any _ (tab_below htab hb0))
  have HA0 := Lib.hid (ha.below hb0)
  have HBB0 := Lib.hid (hb.below hb0)
  have HC0 := Lib.hid (hc.below hb0)
  have HX := Lib.hid hx
  have HY := Lib.hid hy
  have HZ := Lib.hid hz
  have HNA := Lib.hid hna
  have HNB := Lib.hid hnb
  have HNC := Lib.hid hnc
  have HRX := Lib.hid hrx
  have HRY := Lib.hid hry
  clear hb0 x0 y0 z0 ha hb hc hx hy hz hna hnb hnc htab hrx hry
  go_enter Tryd.func10, Tryd.ntmps10
  go_wp2_with fail
  refine HAL.out.mono ?_
  rintro e w1 ⟨rfl, hb1⟩
  have X1 := Lib.hid (X0.out.below hb1)
  have Y1 := Lib.hid (Y0.out.below hb1)
  have Z1 := Lib.hid (Z0.out.below hb1)
  have HB1 := Lib.hid (HB0.out.trans (hb1.mono HB0.out.size))
  have R1 := Lib.hid (rright_any s A ca xs w1 (HA0.out.below hb1) HX.out hca hcam HNA.out)
  have HBB1 := Lib.hid (HBB0.out.below hb1)
  have HC1 := Lib.hid (HC0.out.below hb1)
  have HA1 := Lib.hid (HA0.out.below hb1)
  rw [HRX.out] at R1
  clear hb1
  obtain ⟨q0, q1, -, -, ql⟩ := X1.out.facts
  go_wp2_with fail
  refine R1.out.mono ?_
  rintro e w2 ⟨rfl, hb2⟩
  have HB2 := Lib.hid (HB1.out.trans (hb2.mono HB1.out.size))
  have X2 := Lib.hid (X1.out.below hb2)
  have Y2 := Lib.hid (Y1.out.below hb2)
  have Z2 := Lib.hid (Z1.out.below hb2)
  have R2 := Lib.hid (rright_any t B cb ys w2 (HBB1.out.below hb2) HY.out hcb hcbm HNB.out)
  have HA2 := Lib.hid (HA1.out.below hb2)
  have HBB2 := Lib.hid (HBB1.out.below hb2)
  have HC2 := Lib.hid (HC1.out.below hb2)
  rw [HRY.out] at R2
  clear hb2 q0 q1 ql
  obtain ⟨q0, q1, -, -, ql⟩ := Y2.out.facts
  go_wp2_with fail
  refine R2.out.mono ?_
  rintro e w3 ⟨rfl, hb3⟩
  have HB3 := Lib.hid (HB2.out.trans (hb3.mono HB2.out.size))
  clear hb3 q0 q1 ql
  go_wp2
  go_ret
  exact ⟨rfl, HB3.out⟩

set_option maxRecDepth 10000000 in
set_option maxHeartbeats 2000000 in
theorem order_c (s t u : Bool) (A B C : Option Addr) (ca cb cc : Nat) (xs ys zs : List Nat) (w : World) (ha : Rd w A xs) (hb : Rd w B ys) (hc : Rd w C zs) (hx : Lm xs) (hy : Lm ys) (hz : Lm zs) (hca : xs.length ≤ ca) (hcb : ys.length ≤ cb) (hcc : zs.length ≤ cc)
    (hcam : ca ≤ 9223372036854775807) (hcbm : cb ≤ 9223372036854775807) (hccm : cc ≤ 9223372036854775807) (hna : A = none → xs.length = 0 ∧ ca = 0) (hnb : B = none → ys.length = 0 ∧ cb = 0) (hnc : C = none → zs.length = 0 ∧ cc = 0)
    (htab : Lib.TabIs Tryd.prog w "internal/strconv.uint64pow10" .u64 Lib.pow10Tab) (hrx : rightB s xs = true) (hry : rightB t ys = true) (hrz : rightB u zs = false) :
    Calls Tryd.prog 10 #[.agg #[.bool s, .slice A xs.length ca], .agg #[.bool t, .slice B ys.length cb], .agg #[.bool u, .slice C zs.length cc]] w fun e w' => e = .returned (.bool true) ∧ Below w.heap.size w w' := by
  obtain ⟨hb0, x0, y0, z0⟩ := newp3 w s t u A B C xs.length ca ys.length cb zs.length cc
  have HB0 := Lib.hid hb0
  have X0 := Lib.hid x0
  have Y0 := Lib.hid y0
  have Z0 := Lib.hid z0
  have HAL := Lib.hid (ealive_any _ (tab_below htab hb0))
  have HA0 := Lib.hid (ha.below hb0)
  have HBB0 := Lib.hid (hb.below hb0)
  have HC0 := Lib.hid (hc.below hb0)
  have HX := Lib.hid hx
  have HY := Lib.hid hy
  have HZ := Lib.hid hz
  have HNA := Lib.hid hna
  have HNB := Lib.hid hnb
  have HNC := Lib.hid hnc
  have HRX := Lib.hid hrx
  have HRY := Lib.hid hry
  have HRZ := Lib.hid hrz
  clear hb0 x0 y0 z0 ha hb hc hx hy hz hna hnb hnc htab hrx hry hrz
  go_enter Tryd.func10, Tryd.ntmps10
  go_wp2_with fail
  refine HAL.out.mono ?_
  rintro e w1 ⟨rfl, hb1⟩
  have X1 := Lib.hid (X0.out.below hb1)
  have Y1 := Lib.hid (Y0.out.below hb1)
  have Z1 := Lib.hid (Z0.out.below hb1)
  have HB1 := Lib.hid (HB0.out.trans (hb1.mono HB0.out.size))
  have R1 := Lib.hid (rright_any s A ca xs w1 (HA0.out.below hb1) HX.out hca hcam HNA.out)
  have HBB1 := Lib.hid (HBB0.out.below hb1)
  have HC1 := Lib.hid (HC0.out.below hb1)
  have HA1 := Lib.hid (HA0.out.below hb1)
  rw [HRX.out] at R1
  clear hb1
  obtain ⟨q0, q1, -, -, ql⟩ := X1.out.facts
  go_wp2_with fail
  refine R1.out.mono ?_
  rintro e w2 ⟨rfl, hb2⟩
  have HB2 := Lib.hid (HB1.out.trans (hb2.mono HB1.out.size))
  have X2 := Lib.hid (X1.out.below hb2)
  have Y2 := Lib.hid (Y1.out.below hb2)
  have Z2 := Lib.hid (Z1.out.below hb2)
  have R2 := Lib.hid (rright_any t B cb ys w2 (HBB1.out.below hb2) HY.out hcb hcbm HNB.out)
  have HA2 := Lib.hid (HA1.out.below hb2)
  have HBB2 := Lib.hid (HBB1.out.below hb2)
  have HC2 := Lib.hid (HC1.out.below hb2)
  rw [HRY.out] at R2
  clear hb2 q0 q1 ql
  obtain ⟨q0, q1, -, -, ql⟩ := Y2.out.facts
  go_wp2_with fail
  refine R2.out.mono ?_
  rintro e w3 ⟨rfl, hb3⟩
  have HB3 := Lib.hid (HB2.out.trans (hb3.mono HB2.out.size))
  have X3 := Lib.hid (X2.out.below hb3)
  have Y3 := Lib.hid (Y2.out.below hb3)
  have Z3 := Lib.hid (Z2.out.below hb3)
  have R3 := Lib.hid (rright_any u C cc zs w3 (HC2.out.below hb3) HZ.out hcc hccm HNC.out)
  have HA3 := Lib.hid (HA2.out.below hb3)
  have HBB3 := Lib.hid (HBB2.out.below hb3)
  have HC3 := Lib.hid (HC2.out.below hb3)
  rw [HRZ.out] at R3
  clear hb3 q0 q1 ql
  obtain ⟨q0, q1, -, -, ql⟩ := Z3.out.facts
  go_wp2_with fail
  refine R3.out.mono ?_
  rintro e w4 ⟨rfl, hb4⟩
  have HB4 := Lib.hid (HB3.out.trans (hb4.mono HB3.out.size))
  clear hb4 q0 q1 ql
  go_wp2
  go_ret
  exact ⟨rfl, HB4.out⟩

end LM
end Go.Proofs.YtfckjapedjjhpaaDoor
