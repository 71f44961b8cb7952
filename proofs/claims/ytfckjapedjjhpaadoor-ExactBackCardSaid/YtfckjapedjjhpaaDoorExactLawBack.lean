/- The walk of the statement ExactBack. -/
import Derived.Test.YtfckjapedjjhpaaDoorExactU
import Derived.Test.YtfckjapedjjhpaaDoorExactX
import Derived.Deep.RegionHeld3
namespace Go.Proofs.YtfckjapedjjhpaaDoor
open Go.RowKit
namespace LM
set_option linter.unusedVariables false

theorem Bxs.newTwo {w : World} {L : List (Nat × Bool × Option Addr × Nat × Nat)} (h : Bxs w L) (b : Bool) (A : Option Addr) (n c : Nat) (b' : Bool) (A' : Option Addr) (n' c' : Nat) :
    Bxs ((w.alloc (.cells #[.bool b, .slice A n c] 24)).alloc (.cells #[.bool b', .slice A' n' c'] 24)) ((w.heap.size + 1, b', A', n', c') :: (w.heap.size, b, A, n, c) :: L) := by
  have h2 := (h.new b A n c).new b' A' n' c'
  rw [World.size_alloc] at h2
  exact h2

theorem dec_ne (n : Nat) : ∃ c r, Lib.decDigits n = c :: r ∧ 48 ≤ c.toNat := by
  have h := (dec_digs n).1
  cases hd : Lib.decDigits n with
  | nil =>
    exfalso
    have h1 := Lib.decDigits_length n
    rw [hd] at h1
    by_cases h10 : n < 10
    · rw [Lib.decDigits_one h10] at hd
      cases hd
    · rw [dec_big h10] at hd
      simp at hd
  | cons c r => exact ⟨c, r, rfl, (h c (by rw [hd]; exact List.mem_cons_self ..)).1⟩
theorem sign_dec (x : Int) : signOf (decI x) = (decide (x < 0), Lib.decDigits x.natAbs) := by
  unfold decI signOf
  by_cases h : x < 0
  · rw [if_pos h, decide_eq_true h]
    simp [Lib.hasPrefix, Lib.trimPrefix]
  · rw [if_neg h, decide_eq_false h]
    obtain ⟨c, r, e, hc⟩ := dec_ne x.natAbs
    have h45 : (45 : UInt8) ≠ c := fun e2 => by rw [← e2] at hc; exact absurd hc (by decide)
    have h43 : (43 : UInt8) ≠ c := fun e2 => by rw [← e2] at hc; exact absurd hc (by decide)
    rw [e]
    simp [Lib.hasPrefix, Lib.trimPrefix, h45, h43]
theorem pout_dec {x z er : Int} (hx : ¬ BigI x) (h : POut (decI x) z er) : z = x ∧ er = 0 := by
  unfold POut at h
  rw [sign_dec] at h
  obtain ⟨h1, h2⟩ := dec_digs x.natAbs
  have h3 := dec_fits hx
  have hok : OkText (Lib.decDigits x.natAbs) := ⟨h3.1, by omega, h1⟩
  rw [h2] at h
  rcases h with ⟨k, _⟩ | ⟨_, k, _⟩ | ⟨_, _, k1, k2⟩
  · exact absurd hok k
  · exact absurd k hx
  · exact ⟨by rw [k1]; exact sg_of x, k2⟩
theorem deci_len {x : Int} (hx : ¬ BigI x) : (decI x).length ≤ 618 := by
  have h3 := dec_fits hx
  unfold decI
  split
  · simp; omega
  · omega
theorem IntV.abs {w : World} {b : Bool} {A : Option Addr} {n c : Nat} {z : Int} (h : IntV w (.agg #[.bool b, .slice A n c]) z) : IntV w (.agg #[.bool false, .slice A n c]) (z.natAbs : Int) := by
  obtain ⟨A', c', r, e, h1, h2, h3, h4, h5⟩ := h
  simp only [Value.agg.injEq, Array.mk.injEq, List.cons.injEq, Value.bool.injEq, Value.slice.injEq, and_true] at e
  obtain ⟨-, rfl, rfl, rfl⟩ := e
  refine ⟨A, c, r, ?_, h1, h2, h3, h4, by rw [Int.natAbs_natCast]; exact h5⟩
  rw [decide_eq_false (by omega)]
theorem big_abs {z : Int} (h : ¬ BigI z) : ¬ BigI (z.natAbs : Int) := by unfold BigI; rw [Int.natAbs_natCast]; exact h
theorem mul_fit {x y : Int} (hx : ¬ BigI x) : ¬ BigI (quoI x y * y) := by
  unfold BigI
  rw [Int.natAbs_mul, show (quoI x y).natAbs = x.natAbs / y.natAbs from sg_abs _ _]
  exact fun h => hx (h.mono (Nat.div_mul_le_self _ _))
theorem mod_zero {x y : Int} (hy : y ≠ 0) : modI x y = 0 ↔ remI x y = 0 := by
  have h := rem_lt x y hy
  unfold modI
  generalize remI x y = r at *
  by_cases h0 : r = 0
  · subst h0; simp
  · split <;> omega
theorem rem_sign {x y : Int} (h : remI x y ≠ 0) : decide (remI x y < 0) = decide (x < 0) := by
  unfold remI at *
  rw [sg_neg]
  have : x.natAbs % y.natAbs ≠ 0 := fun e => h (by rw [e, sg_zero])
  rw [decide_eq_true (show 0 < x.natAbs % y.natAbs by omega), Bool.and_true]
theorem Out.no {z a e : Int} (h : Out z a e) (hz : ¬ BigI z) : a = z ∧ e = 0 := by
  rcases h with ⟨h1, _, _⟩ | ⟨_, h2, h3⟩
  · exact absurd h1 hz
  · exact ⟨h3, h2⟩

set_option maxRecDepth 10000000 in
set_option maxHeartbeats 8000000 in
theorem eback_a (s t : Bool) (A B : Option Addr) (ca cb : Nat) (xs ys : List Nat) (w : World) (ha : Rd w A xs) (hb : Rd w B ys) (hx : Lm xs) (hy : Lm ys) (hca : xs.length ≤ ca) (hcb : ys.length ≤ cb)
    (hcam : ca ≤ 9223372036854775807) (hcbm : cb ≤ 9223372036854775807) (hna : A = none → xs.length = 0 ∧ ca = 0) (hnb : B = none → ys.length = 0 ∧ cb = 0)
    (htab : Lib.TabIs Tryd.prog w "internal/strconv.uint64pow10" .u64 Lib.pow10Tab) (hrx : rightB s xs = false) :
    Calls Tryd.prog 9 #[.agg #[.bool s, .slice A xs.length ca], .agg #[.bool t, .slice B ys.length cb]] w fun e w' => e = .returned (.bool true) ∧ Below w.heap.size w w' := by
  obtain ⟨hb0, x0, y0⟩ := newp2 w s t A B xs.length ca ys.length cb
  have HB0 := Lib.hid hb0
  have XS0 := Lib.hid ((Bxs.nil.cons y0).cons x0)
  have HAL := Lib.hid (ealive_any _ (tab_below htab hb0))
  have HTAB := Lib.hid (tab_below htab hb0)
  have HA0 := Lib.hid (ha.below hb0)
  have HBB0 := Lib.hid (hb.below hb0)
  have HX := Lib.hid hx
  have HY := Lib.hid hy
  have HNA := Lib.hid hna
  have HNB := Lib.hid hnb
  have HRX := Lib.hid hrx
  clear hb0 x0 y0 ha hb hx hy hna hnb htab hrx
  go_enter Tryd.func9, Tryd.ntmps9
  go_wp2_with fail
  refine HAL.out.mono ?_
  rintro e w1 ⟨rfl, hb1⟩
  have XS1 := Lib.hid (XS0.out.below hb1)
  have HB1 := Lib.hid (HB0.out.trans (hb1.mono HB0.out.size))
  have HA1 := Lib.hid (HA0.out.below hb1)
  have HBB1 := Lib.hid (HBB0.out.below hb1)
  have R1 := Lib.hid (rright_any s A ca xs w1 HA1.out HX.out hca hcam HNA.out)
  rw [HRX.out] at R1
  have HTAB1 := Lib.hid (tab_below HTAB.out hb1)
  clear hb1
  obtain ⟨q0, q1, -, -, ql⟩ := XS1.out.hd.facts
  go_wp2_with fail
  refine R1.out.mono ?_
  rintro e w2 ⟨rfl, hb2⟩
  have HB2 := Lib.hid (HB1.out.trans (hb2.mono HB1.out.size))
  clear hb2 q0 q1 ql
  go_wp2
  go_ret
  exact ⟨rfl, HB2.out⟩

set_option maxRecDepth 10000000 in
set_option maxHeartbeats 8000000 in
theorem eback_b (s t : Bool) (A B : Option Addr) (ca cb : Nat) (xs ys : List Nat) (w : World) (ha : Rd w A xs) (hb : Rd w B ys) (hx : Lm xs) (hy : Lm ys) (hca : xs.length ≤ ca) (hcb : ys.length ≤ cb)
    (hcam : ca ≤ 9223372036854775807) (hcbm : cb ≤ 9223372036854775807) (hna : A = none → xs.length = 0 ∧ ca = 0) (hnb : B = none → ys.length = 0 ∧ cb = 0)
    (htab : Lib.TabIs Tryd.prog w "internal/strconv.uint64pow10" .u64 Lib.pow10Tab) (hrx : rightB s xs = true) (hry : rightB t ys = false) :
    Calls Tryd.prog 9 #[.agg #[.bool s, .slice A xs.length ca], .agg #[.bool t, .slice B ys.length cb]] w fun e w' => e = .returned (.bool true) ∧ Below w.heap.size w w' := by
  obtain ⟨hb0, x0, y0⟩ := newp2 w s t A B xs.length ca ys.length cb
  have HB0 := Lib.hid hb0
  have XS0 := Lib.hid ((Bxs.nil.cons y0).cons x0)
  have HAL := Lib.hid (ealive_any _ (tab_below htab hb0))
  have HTAB := Lib.hid (tab_below htab hb0)
  have HA0 := Lib.hid (ha.below hb0)
  have HBB0 := Lib.hid (hb.below hb0)
  have HX := Lib.hid hx
  have HY := Lib.hid hy
  have HNA := Lib.hid hna
  have HNB := Lib.hid hnb
  have HRX := Lib.hid hrx
  have HRY := Lib.hid hry
  clear hb0 x0 y0 ha hb hx hy hna hnb htab hrx hry
  go_enter Tryd.func9, Tryd.ntmps9
  go_wp2_with fail
  refine HAL.out.mono ?_
  rintro e w1 ⟨rfl, hb1⟩
  have XS1 := Lib.hid (XS0.out.below hb1)
  have HB1 := Lib.hid (HB0.out.trans (hb1.mono HB0.out.size))
  have HA1 := Lib.hid (HA0.out.below hb1)
  have HBB1 := Lib.hid (HBB0.out.below hb1)
  have R1 := Lib.hid (rright_any s A ca xs w1 HA1.out HX.out hca hcam HNA.out)
  rw [HRX.out] at R1
  have HTAB1 := Lib.hid (tab_below HTAB.out hb1)
  clear hb1
  obtain ⟨q0, q1, -, -, ql⟩ := XS1.out.hd.facts
  go_wp2_with fail
  refine R1.out.mono ?_
  rintro e w2 ⟨rfl, hb2⟩
  have HB2 := Lib.hid (HB1.out.trans (hb2.mono HB1.out.size))
  have XS2 := Lib.hid (XS1.out.below hb2)
  have HA2 := Lib.hid (HA1.out.below hb2)
  have HBB2 := Lib.hid (HBB1.out.below hb2)
  have R2 := Lib.hid (rright_any t B cb ys w2 HBB2.out HY.out hcb hcbm HNB.out)
  rw [HRY.out] at R2
  have HTAB2 := Lib.hid (tab_below HTAB1.out hb2)
  clear hb2 q0 q1 ql
  obtain ⟨q0, q1, -, -, ql⟩ := XS2.out.tl.hd.facts
  go_wp2_with fail
  refine R2.out.mono ?_
  rintro e w3 ⟨rfl, hb3⟩
  have HB3 := Lib.hid (HB2.out.trans (hb3.mono HB2.out.size))
  clear hb3 q0 q1 ql
  go_wp2
  go_ret
  exact ⟨rfl, HB3.out⟩

set_option maxRecDepth 10000000 in
set_option maxHeartbeats 8000000 in
theorem eback_zero (s t : Bool) (A B : Option Addr) (ca cb : Nat) (xs ys : List Nat) (w : World) (ha : Rd w A xs) (hb : Rd w B ys) (hx : Lm xs) (hy : Lm ys) (hca : xs.length ≤ ca) (hcb : ys.length ≤ cb)
    (hcam : ca ≤ 9223372036854775807) (hcbm : cb ≤ 9223372036854775807) (hna : A = none → xs.length = 0 ∧ ca = 0) (hnb : B = none → ys.length = 0 ∧ cb = 0)
    (htab : Lib.TabIs Tryd.prog w "internal/strconv.uint64pow10" .u64 Lib.pow10Tab) (hrx : rightB s xs = true) (hry : rightB t ys = true) (h0 : ys.length = 0) :
    Calls Tryd.prog 9 #[.agg #[.bool s, .slice A xs.length ca], .agg #[.bool t, .slice B ys.length cb]] w fun e w' => e = .returned (.bool true) ∧ Below w.heap.size w w' := by
  obtain ⟨hb0, x0, y0⟩ := newp2 w s t A B xs.length ca ys.length cb
  have HB0 := Lib.hid hb0
  have XS0 := Lib.hid ((Bxs.nil.cons y0).cons x0)
  have HAL := Lib.hid (ealive_any _ (tab_below htab hb0))
  have HTAB := Lib.hid (tab_below htab hb0)
  have HA0 := Lib.hid (ha.below hb0)
  have HBB0 := Lib.hid (hb.below hb0)
  have HX := Lib.hid hx
  have HY := Lib.hid hy
  have HNA := Lib.hid hna
  have HNB := Lib.hid hnb
  have HRX := Lib.hid hrx
  have HRY := Lib.hid hry
  have H0 := Lib.hid h0
  clear hb0 x0 y0 ha hb hx hy hna hnb htab hrx hry h0
  go_enter Tryd.func9, Tryd.ntmps9
  go_wp2_with fail
  refine HAL.out.mono ?_
  rintro e w1 ⟨rfl, hb1⟩
  have XS1 := Lib.hid (XS0.out.below hb1)
  have HB1 := Lib.hid (HB0.out.trans (hb1.mono HB0.out.size))
  have HA1 := Lib.hid (HA0.out.below hb1)
  have HBB1 := Lib.hid (HBB0.out.below hb1)
  have R1 := Lib.hid (rright_any s A ca xs w1 HA1.out HX.out hca hcam HNA.out)
  rw [HRX.out] at R1
  have HTAB1 := Lib.hid (tab_below HTAB.out hb1)
  clear hb1
  obtain ⟨q0, q1, -, -, ql⟩ := XS1.out.hd.facts
  go_wp2_with fail
  refine R1.out.mono ?_
  rintro e w2 ⟨rfl, hb2⟩
  have HB2 := Lib.hid (HB1.out.trans (hb2.mono HB1.out.size))
  have XS2 := Lib.hid (XS1.out.below hb2)
  have HA2 := Lib.hid (HA1.out.below hb2)
  have HBB2 := Lib.hid (HBB1.out.below hb2)
  have R2 := Lib.hid (rright_any t B cb ys w2 HBB2.out HY.out hcb hcbm HNB.out)
  rw [HRY.out] at R2
  have HTAB2 := Lib.hid (tab_below HTAB1.out hb2)
  clear hb2 q0 q1 ql
  obtain ⟨q0, q1, -, -, ql⟩ := XS2.out.tl.hd.facts
  go_wp2_with fail
  refine R2.out.mono ?_
  rintro e w3 ⟨rfl, hb3⟩
  have HB3 := Lib.hid (HB2.out.trans (hb3.mono HB2.out.size))
  have XS3 := Lib.hid (XS2.out.below hb3)
  have HTAB3 := Lib.hid (tab_below HTAB2.out hb3)
  obtain ⟨hvx, nbx⟩ := intV_of HRX.out (HA2.out.below hb3) HX.out hca hcam
  obtain ⟨hvy, nby⟩ := intV_of HRY.out (HBB2.out.below hb3) HY.out hcb hcbm
  have VX3 := Lib.hid hvx
  have VY3 := Lib.hid hvy
  have NX := Lib.hid nbx
  have NY := Lib.hid nby
  clear hb3 q0 q1 ql hvx hvy nbx nby
  generalize sg s (val xs) = x at *
  have hy0 : sg t (val ys) = 0 := by have := (can_zero (right_parts HRY.out HY.out).2.1).1 H0.out; rw [this, sg_zero]
  have HY0 := Lib.hid hy0
  clear hy0
  have hzl : ((ys.length : Int) == 0) = true := by simp; exact List.eq_nil_of_length_eq_zero H0.out
  generalize sg t (val ys) = y at *
  obtain ⟨q0, q1, -, -, ql⟩ := XS3.out.hd.facts
  have T1 := Lib.hid (etext_int VX3.out NX.out HTAB3.out)
  go_wp2_with fail
  refine T1.out.mono ?_
  rintro e w4 ⟨rfl, hb4⟩
  have XS4 := Lib.hid (XS3.out.below hb4)
  have VX4 := Lib.hid (VX3.out.keep hb4)
  have VY4 := Lib.hid (VY3.out.keep hb4)
  have HB4 := Lib.hid (HB3.out.trans (hb4.mono HB3.out.size))
  have hsz : (⟨(decI x).toArray⟩ : ByteArray).size ≤ 9223372036854775807 := by
    have h1 := Lib.size_eq (⟨(decI x).toArray⟩ : ByteArray)
    have h2 := deci_len NX.out
    simp only [] at h1
    rw [h1]
    omega
  have T2 := Lib.hid (eparse_any ⟨(decI x).toArray⟩ w4 hsz (fun W _ h => absurd (by rw [show (⟨(decI x).toArray⟩ : ByteArray).data.toList = decI x from rfl, sign_dec]; exact (dec_digs _).1) h))
  clear hb4 q0 q1 ql hsz
  go_wp2_with fail
  refine T2.out.mono ?_
  rintro e w5 ⟨s5, A5, n5, c5, e5, z5, rfl, hv5, hp5, hb5⟩
  obtain ⟨rfl, rfl⟩ := pout_dec NX.out hp5
  have XS5 := Lib.hid ((XS4.out.below hb5).new s5 A5 n5 c5)
  have VX5 := Lib.hid ((VX4.out.keep hb5).alloc (.cells #[.bool s5, .slice A5 n5 c5] 24))
  have VY5 := Lib.hid ((VY4.out.keep hb5).alloc (.cells #[.bool s5, .slice A5 n5 c5] 24))
  have VN5 := Lib.hid (hv5.alloc (.cells #[.bool s5, .slice A5 n5 c5] 24))
  have hbk5 := HB4.out.trans (hb5.mono HB4.out.size)
  have HB5 := Lib.hid (hbk5.alloc hbk5.size (.cells #[.bool s5, .slice A5 n5 c5] 24))
  have T3 := Lib.hid (esame_int VN5.out VX5.out NX.out NX.out)
  rw [decide_eq_true (rfl : z5 = z5)] at T3
  obtain ⟨q0, q1, -, -, ql⟩ := (XS4.out.below hb5).hd.facts
  clear hb5 hv5 hp5 hbk5
  go_wp2_with fail
  refine T3.out.mono ?_
  rintro e w6 ⟨rfl, hb6⟩
  have XS6 := Lib.hid (XS5.out.below hb6)
  have VX6 := Lib.hid (VX5.out.keep hb6)
  have VY6 := Lib.hid (VY5.out.keep hb6)
  have HB6 := Lib.hid (HB5.out.trans (hb6.mono HB5.out.size))
  have T4 := Lib.hid (ecmp_int VX6.out VX6.out NX.out NX.out)
  rw [cmpI_eq rfl] at T4
  clear hb6 q0 q1 ql
  obtain ⟨q0, q1, -, -, ql⟩ := XS6.out.tl.hd.facts
  go_wp2_with fail
  refine T4.out.mono ?_
  rintro e w7 ⟨rfl, hb7⟩
  have XS7 := Lib.hid (XS6.out.below hb7)
  have VX7 := Lib.hid (VX6.out.keep hb7)
  have VY7 := Lib.hid (VY6.out.keep hb7)
  have HB7 := Lib.hid (HB6.out.trans (hb7.mono HB6.out.size))
  have T5 := Lib.hid (equo_int VX7.out VY7.out NX.out NY.out)
  clear hb7 q0 q1 ql
  obtain ⟨q0, q1, -, -, ql⟩ := XS7.out.tl.hd.facts
  obtain ⟨p0, p1, -, -, pl⟩ := XS7.out.tl.tl.hd.facts
  go_wp2_with fail
  refine T5.out.mono ?_
  intro e w8 hr8
  obtain ⟨s8, A8, n8, c8, s8r, A8r, n8r, c8r, e8, zq, zr, rfl, hq8, hr8v, ho8, hb8⟩ := hr8.out
  have h12 : e8 = 12 := by
    rcases ho8 with ⟨_, k, _⟩ | ⟨k, _⟩
    · exact k
    · exact absurd HY0.out k
  subst h12
  have hb8k := HB7.out.trans (hb8.mono HB7.out.size)
  have HB8 := Lib.hid ((hb8k.alloc hb8k.size (.cells #[.bool s8, .slice A8 n8 c8] 24)).alloc (by have := hb8k.size; simp; omega) (.cells #[.bool s8r, .slice A8r n8r c8r] 24))
  have XS8 := Lib.hid (XS7.out.below hb8)
  clear hr8 hq8 hr8v ho8 hb8 hb8k q0 q1 ql p0 p1 pl
  obtain ⟨p0, p1, -, -, pl⟩ := XS8.out.tl.tl.hd.facts
  have wl : w.heap.size < w8.heap.size := by omega
  go_wp2
  go_ret
  exact ⟨rfl, HB8.out⟩

set_option maxRecDepth 10000000 in
set_option maxHeartbeats 8000000 in
theorem eback_main (s t : Bool) (A B : Option Addr) (ca cb : Nat) (xs ys : List Nat) (w : World) (ha : Rd w A xs) (hb : Rd w B ys) (hx : Lm xs) (hy : Lm ys) (hca : xs.length ≤ ca) (hcb : ys.length ≤ cb)
    (hcam : ca ≤ 9223372036854775807) (hcbm : cb ≤ 9223372036854775807) (hna : A = none → xs.length = 0 ∧ ca = 0) (hnb : B = none → ys.length = 0 ∧ cb = 0)
    (htab : Lib.TabIs Tryd.prog w "internal/strconv.uint64pow10" .u64 Lib.pow10Tab) (hrx : rightB s xs = true) (hry : rightB t ys = true) (h0 : ys.length ≠ 0) :
    Calls Tryd.prog 9 #[.agg #[.bool s, .slice A xs.length ca], .agg #[.bool t, .slice B ys.length cb]] w fun e w' => e = .returned (.bool true) ∧ Below w.heap.size w w' := by
  obtain ⟨hb0, x0, y0⟩ := newp2 w s t A B xs.length ca ys.length cb
  have HB0 := Lib.hid hb0
  have XS0 := Lib.hid ((Bxs.nil.cons y0).cons x0)
  have HAL := Lib.hid (ealive_any _ (tab_below htab hb0))
  have HTAB := Lib.hid (tab_below htab hb0)
  have HA0 := Lib.hid (ha.below hb0)
  have HBB0 := Lib.hid (hb.below hb0)
  have HX := Lib.hid hx
  have HY := Lib.hid hy
  have HNA := Lib.hid hna
  have HNB := Lib.hid hnb
  have HRX := Lib.hid hrx
  have HRY := Lib.hid hry
  have H0 := Lib.hid h0
  clear hb0 x0 y0 ha hb hx hy hna hnb htab hrx hry h0
  go_enter Tryd.func9, Tryd.ntmps9
  go_wp2_with fail
  refine HAL.out.mono ?_
  rintro e w1 ⟨rfl, hb1⟩
  have XS1 := Lib.hid (XS0.out.below hb1)
  have HB1 := Lib.hid (HB0.out.trans (hb1.mono HB0.out.size))
  have HA1 := Lib.hid (HA0.out.below hb1)
  have HBB1 := Lib.hid (HBB0.out.below hb1)
  have R1 := Lib.hid (rright_any s A ca xs w1 HA1.out HX.out hca hcam HNA.out)
  rw [HRX.out] at R1
  have HTAB1 := Lib.hid (tab_below HTAB.out hb1)
  clear hb1
  obtain ⟨q0, q1, -, -, ql⟩ := XS1.out.hd.facts
  go_wp2_with fail
  refine R1.out.mono ?_
  rintro e w2 ⟨rfl, hb2⟩
  have HB2 := Lib.hid (HB1.out.trans (hb2.mono HB1.out.size))
  have XS2 := Lib.hid (XS1.out.below hb2)
  have HA2 := Lib.hid (HA1.out.below hb2)
  have HBB2 := Lib.hid (HBB1.out.below hb2)
  have R2 := Lib.hid (rright_any t B cb ys w2 HBB2.out HY.out hcb hcbm HNB.out)
  rw [HRY.out] at R2
  have HTAB2 := Lib.hid (tab_below HTAB1.out hb2)
  clear hb2 q0 q1 ql
  obtain ⟨q0, q1, -, -, ql⟩ := XS2.out.tl.hd.facts
  go_wp2_with fail
  refine R2.out.mono ?_
  rintro e w3 ⟨rfl, hb3⟩
  have HB3 := Lib.hid (HB2.out.trans (hb3.mono HB2.out.size))
  have XS3 := Lib.hid (XS2.out.below hb3)
  have HTAB3 := Lib.hid (tab_below HTAB2.out hb3)
  obtain ⟨hvx, nbx⟩ := intV_of HRX.out (HA2.out.below hb3) HX.out hca hcam
  obtain ⟨hvy, nby⟩ := intV_of HRY.out (HBB2.out.below hb3) HY.out hcb hcbm
  have VX3 := Lib.hid hvx
  have VY3 := Lib.hid hvy
  have NX := Lib.hid nbx
  have NY := Lib.hid nby
  clear hb3 q0 q1 ql hvx hvy nbx nby
  generalize sg s (val xs) = x at *
  have hy0 : sg t (val ys) ≠ 0 := fun h => by have h1 := sg_abs t (val ys); rw [h] at h1; exact H0.out ((can_zero (right_parts HRY.out HY.out).2.1).2 h1.symm)
  have HY0 := Lib.hid hy0
  clear hy0
  generalize sg t (val ys) = y at *
  obtain ⟨q0, q1, -, -, ql⟩ := XS3.out.hd.facts
  have T1 := Lib.hid (etext_int VX3.out NX.out HTAB3.out)
  go_wp2_with fail
  refine T1.out.mono ?_
  rintro e w4 ⟨rfl, hb4⟩
  have XS4 := Lib.hid (XS3.out.below hb4)
  have VX4 := Lib.hid (VX3.out.keep hb4)
  have VY4 := Lib.hid (VY3.out.keep hb4)
  have HB4 := Lib.hid (HB3.out.trans (hb4.mono HB3.out.size))
  have hsz : (⟨(decI x).toArray⟩ : ByteArray).size ≤ 9223372036854775807 := by
    have h1 := Lib.size_eq (⟨(decI x).toArray⟩ : ByteArray)
    have h2 := deci_len NX.out
    simp only [] at h1
    rw [h1]
    omega
  have T2 := Lib.hid (eparse_any ⟨(decI x).toArray⟩ w4 hsz (fun W _ h => absurd (by rw [show (⟨(decI x).toArray⟩ : ByteArray).data.toList = decI x from rfl, sign_dec]; exact (dec_digs _).1) h))
  clear hb4 q0 q1 ql hsz
  go_wp2_with fail
  refine T2.out.mono ?_
  rintro e w5 ⟨s5, A5, n5, c5, e5, z5, rfl, hv5, hp5, hb5⟩
  obtain ⟨rfl, rfl⟩ := pout_dec NX.out hp5
  have XS5 := Lib.hid ((XS4.out.below hb5).new s5 A5 n5 c5)
  have VX5 := Lib.hid ((VX4.out.keep hb5).alloc (.cells #[.bool s5, .slice A5 n5 c5] 24))
  have VY5 := Lib.hid ((VY4.out.keep hb5).alloc (.cells #[.bool s5, .slice A5 n5 c5] 24))
  have VN5 := Lib.hid (hv5.alloc (.cells #[.bool s5, .slice A5 n5 c5] 24))
  have hbk5 := HB4.out.trans (hb5.mono HB4.out.size)
  have HB5 := Lib.hid (hbk5.alloc hbk5.size (.cells #[.bool s5, .slice A5 n5 c5] 24))
  have T3 := Lib.hid (esame_int VN5.out VX5.out NX.out NX.out)
  rw [decide_eq_true (rfl : z5 = z5)] at T3
  obtain ⟨q0, q1, -, -, ql⟩ := (XS4.out.below hb5).hd.facts
  clear hb5 hv5 hp5 hbk5
  go_wp2_with fail
  refine T3.out.mono ?_
  rintro e w6 ⟨rfl, hb6⟩
  have XS6 := Lib.hid (XS5.out.below hb6)
  have VX6 := Lib.hid (VX5.out.keep hb6)
  have VY6 := Lib.hid (VY5.out.keep hb6)
  have HB6 := Lib.hid (HB5.out.trans (hb6.mono HB5.out.size))
  have T4 := Lib.hid (ecmp_int VX6.out VX6.out NX.out NX.out)
  rw [cmpI_eq rfl] at T4
  clear hb6 q0 q1 ql
  obtain ⟨q0, q1, -, -, ql⟩ := XS6.out.tl.hd.facts
  go_wp2_with fail
  refine T4.out.mono ?_
  rintro e w7 ⟨rfl, hb7⟩
  have XS7 := Lib.hid (XS6.out.below hb7)
  have VX7 := Lib.hid (VX6.out.keep hb7)
  have VY7 := Lib.hid (VY6.out.keep hb7)
  have HB7 := Lib.hid (HB6.out.trans (hb7.mono HB6.out.size))
  have T5 := Lib.hid (equo_int VX7.out VY7.out NX.out NY.out)
  clear hb7 q0 q1 ql
  obtain ⟨q0, q1, -, -, ql⟩ := XS7.out.tl.hd.facts
  obtain ⟨p0, p1, -, -, pl⟩ := XS7.out.tl.tl.hd.facts
  go_wp2_with fail
  refine T5.out.mono ?_
  intro e w8 hr8
  obtain ⟨s8, A8, n8, c8, s8r, A8r, n8r, c8r, e8, zq, zr, rfl, hq8, hr8v, ho8, hb8⟩ := hr8.out
  obtain ⟨rfl, rfl, rfl⟩ : e8 = 0 ∧ zq = quoI z5 y ∧ zr = remI z5 y := by
    rcases ho8 with ⟨k, _⟩ | ⟨_, k⟩
    · exact absurd k HY0.out
    · exact k
  have NQ := Lib.hid (quo_not_big (y := y) NX.out)
  have NR := Lib.hid (rem_not_big (y := y) NX.out)
  have XS8 := Lib.hid ((XS7.out.below hb8).newTwo s8 A8 n8 c8 s8r A8r n8r c8r)
  have VX8 := Lib.hid (((VX7.out.keep hb8).alloc (.cells #[.bool s8, .slice A8 n8 c8] 24)).alloc (.cells #[.bool s8r, .slice A8r n8r c8r] 24))
  have VY8 := Lib.hid (((VY7.out.keep hb8).alloc (.cells #[.bool s8, .slice A8 n8 c8] 24)).alloc (.cells #[.bool s8r, .slice A8r n8r c8r] 24))
  have VQ8 := Lib.hid ((hq8.alloc (.cells #[.bool s8, .slice A8 n8 c8] 24)).alloc (.cells #[.bool s8r, .slice A8r n8r c8r] 24))
  have VR8 := Lib.hid ((hr8v.alloc (.cells #[.bool s8, .slice A8 n8 c8] 24)).alloc (.cells #[.bool s8r, .slice A8r n8r c8r] 24))
  have hb8k := HB7.out.trans (hb8.mono HB7.out.size)
  have HB8 := Lib.hid ((hb8k.alloc hb8k.size (.cells #[.bool s8, .slice A8 n8 c8] 24)).alloc (by have := hb8k.size; simp; omega) (.cells #[.bool s8r, .slice A8r n8r c8r] 24))
  have T6 := Lib.hid (emul_int VQ8.out VY8.out NQ.out NY.out)
  clear q0 q1 ql p0 p1 pl
  obtain ⟨p0, p1, -, -, pl⟩ := (XS7.out.below hb8).tl.tl.hd.facts
  have wl : w.heap.size < w8.heap.size := by omega
  clear hr8 hq8 hr8v ho8 hb8 hb8k
  go_wp2_with fail
  refine T6.out.mono ?_
  intro e w9 hr9
  obtain ⟨s9, A9, n9, c9, e9, z9, rfl, hv9, ho9, hb9⟩ := hr9.out
  obtain ⟨rfl, rfl⟩ := ho9.no (mul_fit NX.out)
  have XS9 := Lib.hid ((XS8.out.below hb9).new s9 A9 n9 c9)
  have VX9 := Lib.hid ((VX8.out.keep hb9).alloc (.cells #[.bool s9, .slice A9 n9 c9] 24))
  have VY9 := Lib.hid ((VY8.out.keep hb9).alloc (.cells #[.bool s9, .slice A9 n9 c9] 24))
  have VR9 := Lib.hid ((VR8.out.keep hb9).alloc (.cells #[.bool s9, .slice A9 n9 c9] 24))
  have VP9 := Lib.hid (hv9.alloc (.cells #[.bool s9, .slice A9 n9 c9] 24))
  have hbk := HB8.out.trans (hb9.mono HB8.out.size)
  have HB9 := Lib.hid (hbk.alloc hbk.size (.cells #[.bool s9, .slice A9 n9 c9] 24))
  have T7 := Lib.hid (eadd_int VP9.out VR9.out (mul_fit NX.out) NR.out)
  rw [quo_rem] at T7
  clear p0 p1 pl
  obtain ⟨p0, p1, -, -, pl⟩ := (XS8.out.below hb9).hd.facts
  clear hr9 hv9 ho9 hb9 hbk
  go_wp2_with fail
  refine T7.out.mono ?_
  intro e wa hra
  obtain ⟨sa, Aa, na, ca1, ea, za, rfl, hva, hoa, hba⟩ := hra.out
  obtain ⟨rfl, rfl⟩ := hoa.no NX.out
  have XSa := Lib.hid ((XS9.out.below hba).new sa Aa na ca1)
  have VXa := Lib.hid ((VX9.out.keep hba).alloc (.cells #[.bool sa, .slice Aa na ca1] 24))
  have VYa := Lib.hid ((VY9.out.keep hba).alloc (.cells #[.bool sa, .slice Aa na ca1] 24))
  have VRa := Lib.hid ((VR9.out.keep hba).alloc (.cells #[.bool sa, .slice Aa na ca1] 24))
  have VSa := Lib.hid (hva.alloc (.cells #[.bool sa, .slice Aa na ca1] 24))
  have hbk := HB9.out.trans (hba.mono HB9.out.size)
  have HBa := Lib.hid (hbk.alloc hbk.size (.cells #[.bool sa, .slice Aa na ca1] 24))
  have T8 := Lib.hid (emod_int VXa.out VYa.out NX.out NY.out)
  clear p0 p1 pl
  obtain ⟨q0, q1, -, -, ql⟩ := (XS9.out.below hba).tl.tl.tl.tl.hd.facts
  obtain ⟨p0, p1, -, -, pl⟩ := (XS9.out.below hba).tl.tl.tl.tl.tl.hd.facts
  clear hra hva hoa hba hbk
  go_wp2_with fail
  refine T8.out.mono ?_
  intro e wb hrb
  obtain ⟨sb, Ab, nb, cb1, eb, zb, rfl, hvb, hob, hbb⟩ := hrb.out
  obtain ⟨rfl, rfl⟩ : eb = 0 ∧ zb = modI za y := by
    rcases hob with ⟨k, _⟩ | ⟨_, k⟩
    · exact absurd k HY0.out
    · exact k
  have NM := Lib.hid (MOut.fit hob NY.out)
  have XSb := Lib.hid ((XSa.out.below hbb).new sb Ab nb cb1)
  have VXb := Lib.hid ((VXa.out.keep hbb).alloc (.cells #[.bool sb, .slice Ab nb cb1] 24))
  have VYb := Lib.hid ((VYa.out.keep hbb).alloc (.cells #[.bool sb, .slice Ab nb cb1] 24))
  have VRb := Lib.hid ((VRa.out.keep hbb).alloc (.cells #[.bool sb, .slice Ab nb cb1] 24))
  have VSb := Lib.hid ((VSa.out.keep hbb).alloc (.cells #[.bool sb, .slice Ab nb cb1] 24))
  have VMb := Lib.hid (hvb.alloc (.cells #[.bool sb, .slice Ab nb cb1] 24))
  have hbk := HBa.out.trans (hbb.mono HBa.out.size)
  have HBb := Lib.hid (hbk.alloc hbk.size (.cells #[.bool sb, .slice Ab nb cb1] 24))
  have T9 := Lib.hid (esame_int VSb.out VXb.out NX.out NX.out)
  rw [decide_eq_true (rfl : za = za)] at T9
  clear q0 q1 ql p0 p1 pl
  obtain ⟨q0, q1, -, -, ql⟩ := (XSa.out.below hbb).hd.facts
  obtain ⟨p0, p1, -, -, pl⟩ := (XSa.out.below hbb).tl.tl.tl.tl.tl.hd.facts
  clear hrb hvb hob hbb hbk
  go_wp2_with fail
  refine T9.out.mono ?_
  rintro e wc ⟨rfl, hbc⟩
  have XSc := Lib.hid (XSb.out.below hbc)
  have VYc := Lib.hid (VYb.out.keep hbc)
  have VMc := Lib.hid (VMb.out.keep hbc)
  have HBc := Lib.hid (HBb.out.trans (hbc.mono HBb.out.size))
  have PX := Lib.hid VXb.out.parts
  have PR := Lib.hid VRb.out.parts
  have PM := Lib.hid VMb.out.parts
  have PY := Lib.hid VYb.out.parts
  have ln : n8r ≤ 9223372036854775807 ∧ nb ≤ 9223372036854775807 := ⟨by have := PR.out.2.2; omega, by have := PM.out.2.2; omega⟩
  obtain ⟨ln1, ln2⟩ := ln
  clear hbc q0 q1 ql p0 p1 pl
  obtain ⟨r0, r1, -, -, rl⟩ := XSc.out.tl.tl.tl.hd.facts
  obtain ⟨q0, q1, -, -, ql⟩ := XSc.out.tl.tl.tl.tl.tl.tl.hd.facts
  obtain ⟨p0, p1, -, -, pl⟩ := XSc.out.tl.tl.tl.tl.tl.tl.tl.hd.facts
  obtain ⟨m0, m1, -, -, ml⟩ := XSc.out.hd.facts
  by_cases hz : remI za y = 0
  · have hzr : n8r = 0 := PR.out.2.1.2 hz
    have hzm : nb = 0 := PM.out.2.1.2 ((mod_zero HY0.out).2 hz)
    clear hz
    subst hzr hzm
    go_wp2
    go_ret
    exact ⟨rfl, HBc.out⟩
  · have hm0 : modI za y ≠ 0 := fun h => hz ((mod_zero HY0.out).1 h)
    have hnr : ¬ n8r = 0 := fun h => hz (PR.out.2.1.1 h)
    have hnm : ¬ nb = 0 := fun h => hm0 (PM.out.2.1.1 h)
    have d1 : decide (0 < n8r) = true := decide_eq_true (by omega)
    have d2 : ((nb : Int) == 0) = false := by simp; exact hnm
    have hss : (s8r == s) = true := by rw [PR.out.1, PX.out.1, rem_sign hz]; simp
    have hmm : (sb == t) = true := by rw [PM.out.1, PY.out.1, mod_sign za y HY0.out hm0]; simp
    have T10 := Lib.hid (ecmp_int VMc.out.abs VYc.out.abs (big_abs NM.out) (big_abs NY.out))
    rw [cmpI_lt (by have := mod_lt_abs za y HY0.out; omega)] at T10
    clear hz hm0 hnr hnm
    go_wp2_with fail
    refine T10.out.mono ?_
    rintro e wd ⟨rfl, hbd⟩
    have HBd := Lib.hid (HBc.out.trans (hbd.mono HBc.out.size))
    clear hbd r0 r1 rl q0 q1 ql p0 p1 pl m0 m1 ml
    go_wp2
    go_ret
    exact ⟨rfl, HBd.out⟩

theorem eback_walk (s t : Bool) (A B : Option Addr) (ca cb : Nat) (xs ys : List Nat) (w : World) (ha : Rd w A xs) (hb : Rd w B ys) (hx : Lm xs) (hy : Lm ys) (hca : xs.length ≤ ca) (hcb : ys.length ≤ cb)
    (hcam : ca ≤ 9223372036854775807) (hcbm : cb ≤ 9223372036854775807) (hna : A = none → xs.length = 0 ∧ ca = 0) (hnb : B = none → ys.length = 0 ∧ cb = 0)
    (htab : Lib.TabIs Tryd.prog w "internal/strconv.uint64pow10" .u64 Lib.pow10Tab) :
    Calls Tryd.prog 9 #[.agg #[.bool s, .slice A xs.length ca], .agg #[.bool t, .slice B ys.length cb]] w fun e w' => e = .returned (.bool true) ∧ Below w.heap.size w w' := by
  by_cases r1 : rightB s xs = true
  · by_cases r2 : rightB t ys = true
    · by_cases h0 : ys.length = 0
      · exact eback_zero s t A B ca cb xs ys w ha hb hx hy hca hcb hcam hcbm hna hnb htab r1 r2 h0
      · exact eback_main s t A B ca cb xs ys w ha hb hx hy hca hcb hcam hcbm hna hnb htab r1 r2 h0
    · exact eback_b s t A B ca cb xs ys w ha hb hx hy hca hcb hcam hcbm hna hnb htab r1 (by simpa using r2)
  · exact eback_a s t A B ca cb xs ys w ha hb hx hy hca hcb hcam hcbm hna hnb htab (by simpa using r1)

end LM
end Go.Proofs.YtfckjapedjjhpaaDoor
