/- The walk of the statement ExactQuos. -/
import Derived.Test.YtfckjapedjjhpaaDoorExactU
import Derived.Deep.RegionHeld3
namespace Go.Proofs.YtfckjapedjjhpaaDoor
open Go.RowKit
namespace LM
set_option linter.unusedVariables false

theorem Bxs.newTwo {w : World} {L : List (Nat × Bool × Option Addr × Nat × Nat)} (h : Bxs w L) (b : Bool) (A : Option Addr) (n c : Nat) (b' : Bool) (A' : Option Addr) (n' c' : Nat) :
    Bxs ((w.alloc (.cells #[.bool b, .slice A n c] 24)).alloc (.cells #[.bool b', .slice A' n' c'] 24)) ((w.heap.size + 1, b', A', n', c') :: (w.heap.size, b, A, n, c) :: L) := by
  have h2 := (h.new b A n c).new b' A' n' c'
  rw [World.size_alloc] at h2
  exact h2

set_option maxRecDepth 10000000 in
set_option maxHeartbeats 8000000 in
theorem quos_a (s t : Bool) (A B : Option Addr) (ca cb : Nat) (xs ys : List Nat) (w : World) (ha : Rd w A xs) (hb : Rd w B ys) (hx : Lm xs) (hy : Lm ys) (hca : xs.length ≤ ca) (hcb : ys.length ≤ cb)
    (hcam : ca ≤ 9223372036854775807) (hcbm : cb ≤ 9223372036854775807) (hna : A = none → xs.length = 0 ∧ ca = 0) (hnb : B = none → ys.length = 0 ∧ cb = 0)
    (htab : Lib.TabIs Tryd.prog w "internal/strconv.uint64pow10" .u64 Lib.pow10Tab) (hrx : rightB s xs = false) :
    Calls Tryd.prog 6 #[.agg #[.bool s, .slice A xs.length ca], .agg #[.bool t, .slice B ys.length cb]] w fun e w' => e = .returned (.bool true) ∧ Below w.heap.size w w' := by
  obtain ⟨hb0, x0, y0⟩ := newp2 w s t A B xs.length ca ys.length cb
  have HB0 := Lib.hid hb0
  have XS0 := Lib.hid ((Bxs.nil.cons y0).cons x0)
  have HAL := Lib.hid (ealive_any _ (tab_below htab hb0))
  have HTAB := Lib.hid (tab_below htab hb0)
  have HA0 := Lib.hid (ha.below hb0)
  have HBB0 := Lib.hid (hb.below hb0)
  have HX := Lib.hid hx
  have HY := Lib.hid hy
  have HNA := Lib.hid hna
  have HNB := Lib.hid hnb
  have HRX := Lib.hid hrx
  clear hb0 x0 y0 ha hb hx hy hna hnb htab hrx
  go_enter Tryd.func6, Tryd.ntmps6
  go_wp2_with fail
  refine HAL.out.mono ?_
  rintro e w1 ⟨rfl, hb1⟩
  have XS1 := Lib.hid (XS0.out.below hb1)
  have HB1 := Lib.hid (HB0.out.trans (hb1.mono HB0.out.size))
  have HA1 := Lib.hid (HA0.out.below hb1)
  have HBB1 := Lib.hid (HBB0.out.below hb1)
  have R1 := Lib.hid (rright_any s A ca xs w1 HA1.out HX.out hca hcam HNA.out)
  rw [HRX.out] at R1
  have HTAB1 := Lib.hid (tab_below HTAB.out hb1)
  clear hb1
  obtain ⟨q0, q1, -, -, ql⟩ := XS1.out.hd.facts
  go_wp2_with fail
  refine R1.out.mono ?_
  rintro e w2 ⟨rfl, hb2⟩
  have HB2 := Lib.hid (HB1.out.trans (hb2.mono HB1.out.size))
  clear hb2 q0 q1 ql
  go_wp2
  go_ret
  exact ⟨rfl, HB2.out⟩

set_option maxRecDepth 10000000 in
set_option maxHeartbeats 8000000 in
theorem quos_b (s t : Bool) (A B : Option Addr) (ca cb : Nat) (xs ys : List Nat) (w : World) (ha : Rd w A xs) (hb : Rd w B ys) (hx : Lm xs) (hy : Lm ys) (hca : xs.length ≤ ca) (hcb : ys.length ≤ cb)
    (hcam : ca ≤ 9223372036854775807) (hcbm : cb ≤ 9223372036854775807) (hna : A = none → xs.length = 0 ∧ ca = 0) (hnb : B = none → ys.length = 0 ∧ cb = 0)
    (htab : Lib.TabIs Tryd.prog w "internal/strconv.uint64pow10" .u64 Lib.pow10Tab) (hrx : rightB s xs = true) (hry : rightB t ys = false) :
    Calls Tryd.prog 6 #[.agg #[.bool s, .slice A xs.length ca], .agg #[.bool t, .slice B ys.length cb]] w fun e w' => e = .returned (.bool true) ∧ Below w.heap.size w w' := by
  obtain ⟨hb0, x0, y0⟩ := newp2 w s t A B xs.length ca ys.length cb
  have HB0 := Lib.hid hb0
  have XS0 := Lib.hid ((Bxs.nil.cons y0).cons x0)
  have HAL := Lib.hid (ealive_any _ (tab_below htab hb0))
  have HTAB := Lib.hid (tab_below htab hb0)
  have HA0 := Lib.hid (ha.below hb0)
  have HBB0 := Lib.hid (hb.below hb0)
  have HX := Lib.hid hx
  have HY := Lib.hid hy
  have HNA := Lib.hid hna
  have HNB := Lib.hid hnb
  have HRX := Lib.hid hrx
  have HRY := Lib.hid hry
  clear hb0 x0 y0 ha hb hx hy hna hnb htab hrx hry
  go_enter Tryd.func6, Tryd.ntmps6
  go_wp2_with fail
  refine HAL.out.mono ?_
  rintro e w1 ⟨rfl, hb1⟩
  have XS1 := Lib.hid (XS0.out.below hb1)
  have HB1 := Lib.hid (HB0.out.trans (hb1.mono HB0.out.size))
  have HA1 := Lib.hid (HA0.out.below hb1)
  have HBB1 := Lib.hid (HBB0.out.below hb1)
  have R1 := Lib.hid (rright_any s A ca xs w1 HA1.out HX.out hca hcam HNA.out)
  rw [HRX.out] at R1
  have HTAB1 := Lib.hid (tab_below HTAB.out hb1)
  clear hb1
  obtain ⟨q0, q1, -, -, ql⟩ := XS1.out.hd.facts
  go_wp2_with fail
  refine R1.out.mono ?_
  rintro e w2 ⟨rfl, hb2⟩
  have HB2 := Lib.hid (HB1.out.trans (hb2.mono HB1.out.size))
  have XS2 := Lib.hid (XS1.out.below hb2)
  have HA2 := Lib.hid (HA1.out.below hb2)
  have HBB2 := Lib.hid (HBB1.out.below hb2)
  have R2 := Lib.hid (rright_any t B cb ys w2 HBB2.out HY.out hcb hcbm HNB.out)
  rw [HRY.out] at R2
  have HTAB2 := Lib.hid (tab_below HTAB1.out hb2)
  clear hb2 q0 q1 ql
  obtain ⟨q0, q1, -, -, ql⟩ := XS2.out.tl.hd.facts
  go_wp2_with fail
  refine R2.out.mono ?_
  rintro e w3 ⟨rfl, hb3⟩
  have HB3 := Lib.hid (HB2.out.trans (hb3.mono HB2.out.size))
  clear hb3 q0 q1 ql
  go_wp2
  go_ret
  exact ⟨rfl, HB3.out⟩

set_option maxRecDepth 10000000 in
set_option maxHeartbeats 8000000 in
theorem quos_main (s t : Bool) (A B : Option Addr) (ca cb : Nat) (xs ys : List Nat) (w : World) (ha : Rd w A xs) (hb : Rd w B ys) (hx : Lm xs) (hy : Lm ys) (hca : xs.length ≤ ca) (hcb : ys.length ≤ cb)
    (hcam : ca ≤ 9223372036854775807) (hcbm : cb ≤ 9223372036854775807) (hna : A = none → xs.length = 0 ∧ ca = 0) (hnb : B = none → ys.length = 0 ∧ cb = 0)
    (htab : Lib.TabIs Tryd.prog w "internal/strconv.uint64pow10" .u64 Lib.pow10Tab) (hrx : rightB s xs = true) (hry : rightB t ys = true) :
    Calls Tryd.prog 6 #[.agg #[.bool s, .slice A xs.length ca], .agg #[.bool t, .slice B ys.length cb]] w fun e w' => e = .returned (.bool true) ∧ Below w.heap.size w w' := by
  obtain ⟨hb0, x0, y0⟩ := newp2 w s t A B xs.length ca ys.length cb
  have HB0 := Lib.hid hb0
  have XS0 := Lib.hid ((Bxs.nil.cons y0).cons x0)
  have HAL := Lib.hid (ealive_any _ (tab_below htab hb0))
  have HTAB := Lib.hid (tab_below htab hb0)
  have HA0 := Lib.hid (ha.below hb0)
  have HBB0 := Lib.hid (hb.below hb0)
  have HX := Lib.hid hx
  have HY := Lib.hid hy
  have HNA := Lib.hid hna
  have HNB := Lib.hid hnb
  have HRX := Lib.hid hrx
  have HRY := Lib.hid hry
  clear hb0 x0 y0 ha hb hx hy hna hnb htab hrx hry
  go_enter Tryd.func6, Tryd.ntmps6
  go_wp2_with fail
  refine HAL.out.mono ?_
  rintro e w1 ⟨rfl, hb1⟩
  have XS1 := Lib.hid (XS0.out.below hb1)
  have HB1 := Lib.hid (HB0.out.trans (hb1.mono HB0.out.size))
  have HA1 := Lib.hid (HA0.out.below hb1)
  have HBB1 := Lib.hid (HBB0.out.below hb1)
  have R1 := Lib.hid (rright_any s A ca xs w1 HA1.out HX.out hca hcam HNA.out)
  rw [HRX.out] at R1
  have HTAB1 := Lib.hid (tab_below HTAB.out hb1)
  clear hb1
  obtain ⟨q0, q1, -, -, ql⟩ := XS1.out.hd.facts
  go_wp2_with fail
  refine R1.out.mono ?_
  rintro e w2 ⟨rfl, hb2⟩
  have HB2 := Lib.hid (HB1.out.trans (hb2.mono HB1.out.size))
  have XS2 := Lib.hid (XS1.out.below hb2)
  have HA2 := Lib.hid (HA1.out.below hb2)
  have HBB2 := Lib.hid (HBB1.out.below hb2)
  have R2 := Lib.hid (rright_any t B cb ys w2 HBB2.out HY.out hcb hcbm HNB.out)
  rw [HRY.out] at R2
  have HTAB2 := Lib.hid (tab_below HTAB1.out hb2)
  clear hb2 q0 q1 ql
  obtain ⟨q0, q1, -, -, ql⟩ := XS2.out.tl.hd.facts
  go_wp2_with fail
  refine R2.out.mono ?_
  rintro e w3 ⟨rfl, hb3⟩
  have HB3 := Lib.hid (HB2.out.trans (hb3.mono HB2.out.size))
  have XS3 := Lib.hid (XS2.out.below hb3)
  have HTAB3 := Lib.hid (tab_below HTAB2.out hb3)
  obtain ⟨hvx, nbx⟩ := intV_of HRX.out (HA2.out.below hb3) HX.out hca hcam
  obtain ⟨hvy, nby⟩ := intV_of HRY.out (HBB2.out.below hb3) HY.out hcb hcbm
  have VX3 := Lib.hid hvx
  have VY3 := Lib.hid hvy
  have NX := Lib.hid nbx
  have NY := Lib.hid nby
  clear hb3 q0 q1 ql hvx hvy nbx nby
  generalize sg s (val xs) = x at *
  generalize sg t (val ys) = y at *
  have RS3 := Lib.hid (Rs.nil (w := w3))
  obtain ⟨q0, q1, -, -, ql⟩ := XS3.out.hd.facts
  obtain ⟨p0, p1, -, -, pl⟩ := XS3.out.tl.hd.facts
  have C4 := Lib.hid (equo_int VX3.out VY3.out NX.out NY.out)
  go_wp2_with fail
  refine C4.out.mono ?_
  intro e w4 hz4
  obtain ⟨s4, A4, n4, c4, s4r, A4r, n4r, c4r, e4, zq4, zr4, rfl, hq4, hr4, ho4, hb4⟩ := hz4.out
  have XS4 := Lib.hid ((XS3.out.below hb4).newTwo s4 A4 n4 c4 s4r A4r n4r c4r)
  have VX4 := Lib.hid (((VX3.out.keep hb4).alloc (.cells #[.bool s4, .slice A4 n4 c4] 24)).alloc (.cells #[.bool s4r, .slice A4r n4r c4r] 24))
  have VY4 := Lib.hid (((VY3.out.keep hb4).alloc (.cells #[.bool s4, .slice A4 n4 c4] 24)).alloc (.cells #[.bool s4r, .slice A4r n4r c4r] 24))
  have RS4 := Lib.hid (((((RS3.out.keep hb4).cons hq4.toR).cons hr4.toR).alloc (.cells #[.bool s4, .slice A4 n4 c4] 24)).alloc (.cells #[.bool s4r, .slice A4r n4r c4r] 24))
  have hbk4 := HB3.out.trans (hb4.mono HB3.out.size)
  have HB4 := Lib.hid ((hbk4.alloc hbk4.size (.cells #[.bool s4, .slice A4 n4 c4] 24)).alloc (by have := hbk4.size; simp; omega) (.cells #[.bool s4r, .slice A4r n4r c4r] 24))
  have O4 := Lib.hid ho4
  clear q0 q1 ql p0 p1 pl hq4 hr4 ho4 hbk4 hz4
  obtain ⟨q0, q1, -, -, ql⟩ := (XS3.out.below hb4).hd.facts
  obtain ⟨p0, p1, -, -, pl⟩ := (XS3.out.below hb4).tl.hd.facts
  clear hb4
  have C5 := Lib.hid (emod_int VX4.out VY4.out NX.out NY.out)
  go_wp2_with fail
  refine C5.out.mono ?_
  intro e w5 hz5
  obtain ⟨s5, A5, n5, c5, e5, zm5, rfl, hq5, ho5, hb5⟩ := hz5.out
  have XS5 := Lib.hid ((XS4.out.below hb5).new s5 A5 n5 c5)
  have VX5 := Lib.hid ((VX4.out.keep hb5).alloc (.cells #[.bool s5, .slice A5 n5 c5] 24))
  have VY5 := Lib.hid ((VY4.out.keep hb5).alloc (.cells #[.bool s5, .slice A5 n5 c5] 24))
  have RS5 := Lib.hid (((RS4.out.keep hb5).cons hq5.toR).alloc (.cells #[.bool s5, .slice A5 n5 c5] 24))
  have hbk5 := HB4.out.trans (hb5.mono HB4.out.size)
  have HB5 := Lib.hid (hbk5.alloc hbk5.size (.cells #[.bool s5, .slice A5 n5 c5] 24))
  have O5 := Lib.hid ho5
  clear q0 q1 ql p0 p1 pl hq5 ho5 hbk5 hz5
  obtain ⟨q0, q1, -, -, ql⟩ := (XS4.out.below hb5).tl.tl.hd.facts
  obtain ⟨p0, p1, -, -, pl⟩ := (XS4.out.below hb5).tl.tl.tl.hd.facts
  clear hb5
  have C6 := Lib.hid (rquo2_int VX5.out.toR VY5.out.toR NX.out NY.out)
  go_wp2_with fail
  refine C6.out.mono ?_
  intro e w6 hz6
  obtain ⟨s6, A6, n6, c6, s6r, A6r, n6r, c6r, e6, zq6, zr6, rfl, hq6, hr6, ho6, hb6⟩ := hz6
  have XS6 := Lib.hid ((XS5.out.below hb6).newTwo s6 A6 n6 c6 s6r A6r n6r c6r)
  have VX6 := Lib.hid (((VX5.out.keep hb6).alloc (.cells #[.bool s6, .slice A6 n6 c6] 24)).alloc (.cells #[.bool s6r, .slice A6r n6r c6r] 24))
  have VY6 := Lib.hid (((VY5.out.keep hb6).alloc (.cells #[.bool s6, .slice A6 n6 c6] 24)).alloc (.cells #[.bool s6r, .slice A6r n6r c6r] 24))
  have RS6 := Lib.hid (((((RS5.out.keep hb6).cons hq6).cons hr6).alloc (.cells #[.bool s6, .slice A6 n6 c6] 24)).alloc (.cells #[.bool s6r, .slice A6r n6r c6r] 24))
  have hbk6 := HB5.out.trans (hb6.mono HB5.out.size)
  have HB6 := Lib.hid ((hbk6.alloc hbk6.size (.cells #[.bool s6, .slice A6 n6 c6] 24)).alloc (by have := hbk6.size; simp; omega) (.cells #[.bool s6r, .slice A6r n6r c6r] 24))
  have O6 := Lib.hid ho6
  clear q0 q1 ql p0 p1 pl hq6 hr6 ho6 hbk6
  obtain ⟨q0, q1, -, -, ql⟩ := (XS5.out.below hb6).tl.tl.tl.hd.facts
  obtain ⟨p0, p1, -, -, pl⟩ := (XS5.out.below hb6).tl.tl.tl.tl.hd.facts
  clear hb6
  have C7 := Lib.hid (rmod2_int VX6.out.toR VY6.out.toR NX.out NY.out)
  go_wp2_with fail
  refine C7.out.mono ?_
  intro e w7 hz7
  obtain ⟨s7, A7, n7, c7, e7, zm7, rfl, hq7, ho7, hb7⟩ := hz7
  have XS7 := Lib.hid ((XS6.out.below hb7).new s7 A7 n7 c7)
  have VX7 := Lib.hid ((VX6.out.keep hb7).alloc (.cells #[.bool s7, .slice A7 n7 c7] 24))
  have VY7 := Lib.hid ((VY6.out.keep hb7).alloc (.cells #[.bool s7, .slice A7 n7 c7] 24))
  have RS7 := Lib.hid (((RS6.out.keep hb7).cons hq7).alloc (.cells #[.bool s7, .slice A7 n7 c7] 24))
  have hbk7 := HB6.out.trans (hb7.mono HB6.out.size)
  have HB7 := Lib.hid (hbk7.alloc hbk7.size (.cells #[.bool s7, .slice A7 n7 c7] 24))
  have O7 := Lib.hid ho7
  clear q0 q1 ql p0 p1 pl hq7 ho7 hbk7
  obtain ⟨q0, q1, -, -, ql⟩ := (XS6.out.below hb7).tl.tl.tl.tl.tl.hd.facts
  obtain ⟨p0, p1, -, -, pl⟩ := (XS6.out.below hb7).tl.tl.tl.tl.tl.tl.hd.facts
  have XZ := Lib.hid (XS6.out.below hb7)
  clear hb7
  obtain ⟨za, zb, ea⟩ := O4.out.same O6.out
  obtain ⟨zc, ec⟩ := O5.out.same O7.out
  subst za zb ea zc ec
  clear q0 q1 ql p0 p1 pl
  have F1 := Lib.hid (O4.out.fit NX.out)
  have F2 := Lib.hid (O5.out.fit NY.out)
  have D1 := Lib.hid (rsame2_yes RS7.out.tl.tl.tl.tl.tl.hd RS7.out.tl.tl.hd F1.out.1)
  obtain ⟨a0, a1, -, -, al⟩ := XZ.out.tl.tl.tl.tl.hd.facts
  obtain ⟨b0, b1, -, -, bl⟩ := XZ.out.tl.hd.facts
  go_wp2_with fail
  refine D1.out.mono ?_
  rintro e w8 ⟨rfl, hb8⟩
  have XS8 := Lib.hid (XS7.out.below hb8)
  have RS8 := Lib.hid (RS7.out.keep hb8)
  have HB8 := Lib.hid (HB7.out.trans (hb8.mono HB7.out.size))
  have D2 := Lib.hid (rsame2_yes RS8.out.tl.tl.tl.tl.hd RS8.out.tl.hd F1.out.2)
  clear hb8 a0 a1 al b0 b1 bl
  obtain ⟨a0, a1, -, -, al⟩ := XS8.out.tl.tl.tl.tl.hd.facts
  obtain ⟨b0, b1, -, -, bl⟩ := XS8.out.tl.hd.facts
  go_wp2_with fail
  refine D2.out.mono ?_
  rintro e w9 ⟨rfl, hb9⟩
  have XS9 := Lib.hid (XS8.out.below hb9)
  have RS9 := Lib.hid (RS8.out.keep hb9)
  have HB9 := Lib.hid (HB8.out.trans (hb9.mono HB8.out.size))
  have D3 := Lib.hid (rsame2_yes RS9.out.tl.tl.tl.hd RS9.out.hd F2.out)
  clear hb9 a0 a1 al b0 b1 bl
  obtain ⟨a0, a1, -, -, al⟩ := XS9.out.tl.tl.tl.hd.facts
  obtain ⟨b0, b1, -, -, bl⟩ := XS9.out.hd.facts
  go_wp2_with fail
  refine D3.out.mono ?_
  rintro e wa ⟨rfl, hba⟩
  have HBa := Lib.hid (HB9.out.trans (hba.mono HB9.out.size))
  clear hba a0 a1 al b0 b1 bl
  go_wp2
  go_ret
  exact ⟨rfl, HBa.out⟩

theorem quos_walk (s t : Bool) (A B : Option Addr) (ca cb : Nat) (xs ys : List Nat) (w : World) (ha : Rd w A xs) (hb : Rd w B ys) (hx : Lm xs) (hy : Lm ys) (hca : xs.length ≤ ca) (hcb : ys.length ≤ cb)
    (hcam : ca ≤ 9223372036854775807) (hcbm : cb ≤ 9223372036854775807) (hna : A = none → xs.length = 0 ∧ ca = 0) (hnb : B = none → ys.length = 0 ∧ cb = 0)
    (htab : Lib.TabIs Tryd.prog w "internal/strconv.uint64pow10" .u64 Lib.pow10Tab) :
    Calls Tryd.prog 6 #[.agg #[.bool s, .slice A xs.length ca], .agg #[.bool t, .slice B ys.length cb]] w fun e w' => e = .returned (.bool true) ∧ Below w.heap.size w w' := by
  by_cases r1 : rightB s xs = true
  · by_cases r2 : rightB t ys = true
    · exact quos_main s t A B ca cb xs ys w ha hb hx hy hca hcb hcam hcbm hna hnb htab r1 r2
    · exact quos_b s t A B ca cb xs ys w ha hb hx hy hca hcb hcam hcbm hna hnb htab r1 (by simpa using r2)
  · exact quos_a s t A B ca cb xs ys w ha hb hx hy hca hcb hcam hcbm hna hnb htab (by simpa using r1)

end LM
end Go.Proofs.YtfckjapedjjhpaaDoor
