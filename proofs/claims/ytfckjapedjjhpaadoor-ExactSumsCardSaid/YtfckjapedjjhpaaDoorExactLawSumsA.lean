/- The walk of the statement ExactSums, where a number is not right. -/
import Derived.Test.YtfckjapedjjhpaaDoorExactL
import Derived.Deep.RegionHeld3
namespace Go.Proofs.YtfckjapedjjhpaaDoor
open Go.RowKit
namespace LM
set_option linter.unusedVariables false

set_option maxRecDepth 10000000 in
set_option maxHeartbeats 8000000 in
theorem sums_a (s t : Bool) (A B : Option Addr) (ca cb : Nat) (xs ys : List Nat) (w : World) (ha : Rd w A xs) (hb : Rd w B ys) (hx : Lm xs) (hy : Lm ys) (hca : xs.length ≤ ca) (hcb : ys.length ≤ cb)
    (hcam : ca ≤ 9223372036854775807) (hcbm : cb ≤ 9223372036854775807) (hna : A = none → xs.length = 0 ∧ ca = 0) (hnb : B = none → ys.length = 0 ∧ cb = 0)
    (htab : Lib.TabIs Tryd.prog w "internal/strconv.uint64pow10" .u64 Lib.pow10Tab) (hrx : rightB s xs = false) :
    Calls Tryd.prog 5 #[.agg #[.bool s, .slice A xs.length ca], .agg #[.bool t, .slice B ys.length cb]] w fun e w' => e = .returned (.bool true) ∧ Below w.heap.size w w' := by
  obtain ⟨hb0, x0, y0⟩ := newp2 w s t A B xs.length ca ys.length cb
  have HB0 := Lib.hid hb0
  have XS0 := Lib.hid ((Bxs.nil.cons y0).cons x0)
  have HAL := Lib.hid (ealive_any _ (tab_below htab hb0))
  have HTAB := Lib.hid (tab_below htab hb0)
  have HA0 := Lib.hid (ha.below hb0)
  have HBB0 := Lib.hid (hb.below hb0)
  have HX := Lib.hid hx
  have HY := Lib.hid hy
  have HNA := Lib.hid hna
  have HNB := Lib.hid hnb
  have HRX := Lib.hid hrx
  clear hb0 x0 y0 ha hb hx hy hna hnb htab hrx
  go_enter Tryd.func5, Tryd.ntmps5
  go_wp2_with fail
  refine HAL.out.mono ?_
  rintro e w1 ⟨rfl, hb1⟩
  have XS1 := Lib.hid (XS0.out.below hb1)
  have HB1 := Lib.hid (HB0.out.trans (hb1.mono HB0.out.size))
  have HA1 := Lib.hid (HA0.out.below hb1)
  have HBB1 := Lib.hid (HBB0.out.below hb1)
  have R1 := Lib.hid (rright_any s A ca xs w1 HA1.out HX.out hca hcam HNA.out)
  rw [HRX.out] at R1
  have HTAB1 := Lib.hid (tab_below HTAB.out hb1)
  clear hb1
  obtain ⟨q0, q1, -, -, ql⟩ := XS1.out.hd.facts
  go_wp2_with fail
  refine R1.out.mono ?_
  rintro e w2 ⟨rfl, hb2⟩
  have HB2 := Lib.hid (HB1.out.trans (hb2.mono HB1.out.size))
  clear hb2 q0 q1 ql
  go_wp2
  go_ret
  exact ⟨rfl, HB2.out⟩

set_option maxRecDepth 10000000 in
set_option maxHeartbeats 8000000 in
theorem sums_b (s t : Bool) (A B : Option Addr) (ca cb : Nat) (xs ys : List Nat) (w : World) (ha : Rd w A xs) (hb : Rd w B ys) (hx : Lm xs) (hy : Lm ys) (hca : xs.length ≤ ca) (hcb : ys.length ≤ cb)
    (hcam : ca ≤ 9223372036854775807) (hcbm : cb ≤ 9223372036854775807) (hna : A = none → xs.length = 0 ∧ ca = 0) (hnb : B = none → ys.length = 0 ∧ cb = 0)
    (htab : Lib.TabIs Tryd.prog w "internal/strconv.uint64pow10" .u64 Lib.pow10Tab) (hrx : rightB s xs = true) (hry : rightB t ys = false) :
    Calls Tryd.prog 5 #[.agg #[.bool s, .slice A xs.length ca], .agg #[.bool t, .slice B ys.length cb]] w fun e w' => e = .returned (.bool true) ∧ Below w.heap.size w w' := by
  obtain ⟨hb0, x0, y0⟩ := newp2 w s t A B xs.length ca ys.length cb
  have HB0 := Lib.hid hb0
  have XS0 := Lib.hid ((Bxs.nil.cons y0).cons x0)
  have HAL := Lib.hid (ealive_any _ (tab_below htab hb0))
  have HTAB := Lib.hid (tab_below htab hb0)
  have HA0 := Lib.hid (ha.below hb0)
  have HBB0 := Lib.hid (hb.below hb0)
  have HX := Lib.hid hx
  have HY := Lib.hid hy
  have HNA := Lib.hid hna
  have HNB := Lib.hid hnb
  have HRX := Lib.hid hrx
  have HRY := Lib.hid hry
  clear hb0 x0 y0 ha hb hx hy hna hnb htab hrx hry
  go_enter Tryd.func5, Tryd.ntmps5
  go_wp2_with fail
  refine HAL.out.mono ?_
  rintro e w1 ⟨rfl, hb1⟩
  have XS1 := Lib.hid (XS0.out.below hb1)
  have HB1 := Lib.hid (HB0.out.trans (hb1.mono HB0.out.size))
  have HA1 := Lib.hid (HA0.out.below hb1)
  have HBB1 := Lib.hid (HBB0.out.below hb1)
  have R1 := Lib.hid (rright_any s A ca xs w1 HA1.out HX.out hca hcam HNA.out)
  rw [HRX.out] at R1
  have HTAB1 := Lib.hid (tab_below HTAB.out hb1)
  clear hb1
  obtain ⟨q0, q1, -, -, ql⟩ := XS1.out.hd.facts
  go_wp2_with fail
  refine R1.out.mono ?_
  rintro e w2 ⟨rfl, hb2⟩
  have HB2 := Lib.hid (HB1.out.trans (hb2.mono HB1.out.size))
  have XS2 := Lib.hid (XS1.out.below hb2)
  have HA2 := Lib.hid (HA1.out.below hb2)
  have HBB2 := Lib.hid (HBB1.out.below hb2)
  have R2 := Lib.hid (rright_any t B cb ys w2 HBB2.out HY.out hcb hcbm HNB.out)
  rw [HRY.out] at R2
  have HTAB2 := Lib.hid (tab_below HTAB1.out hb2)
  clear hb2 q0 q1 ql
  obtain ⟨q0, q1, -, -, ql⟩ := XS2.out.tl.hd.facts
  go_wp2_with fail
  refine R2.out.mono ?_
  rintro e w3 ⟨rfl, hb3⟩
  have HB3 := Lib.hid (HB2.out.trans (hb3.mono HB2.out.size))
  clear hb3 q0 q1 ql
  go_wp2
  go_ret
  exact ⟨rfl, HB3.out⟩

end LM
end Go.Proofs.YtfckjapedjjhpaaDoor
