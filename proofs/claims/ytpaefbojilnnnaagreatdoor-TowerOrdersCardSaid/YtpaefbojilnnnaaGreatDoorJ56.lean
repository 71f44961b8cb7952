/- The statement TowerOrders. -/
import Derived.Test.YtpaefbojilnnnaaGreatDoorJ54
import Derived.Test.YtpaefbojilnnnaaGreatDoorJ51
namespace Go.Proofs.YtpaefbojilnnnaaGreatDoor
open Go Go.RowKit
namespace LM
set_option linter.unusedVariables false
attribute [local go_sem] run_store_flt

/-- a number that can be, as it is read -/
def NumOk (w : World) (fl : Bool) (f : Nat) (s : Bool) (A : Option Addr) (n c : Nat) : Prop := f < 18446744073709551616 ∧ (fl = true ∨ (fl = false ∧ ∃ x, IntV w (.agg #[.bool s, .slice A n c]) x ∧ ¬ BigI x))
theorem numOk_of {fl : Bool} {f : Nat} {s : Bool} {A : Option Addr} {c : Nat} {xs : List Nat} {w : World} (hr : rightN fl f s xs = true) (hf : f < 18446744073709551616) (ha : Rd w A xs) (hx : Lm xs) (hca : xs.length ≤ c) (hcm : c ≤ 9223372036854775807) : NumOk w fl f s A xs.length c := by
  refine ⟨hf, ?_⟩
  cases fl
  · right
    unfold rightN at hr
    rw [if_neg (by decide), Bool.and_eq_true] at hr
    exact ⟨rfl, _, (intV_of hr.2 ha hx hca hcm).1, (intV_of hr.2 ha hx hca hcm).2⟩
  · exact .inl rfl
theorem NumOk.keep {w w' : World} {fl : Bool} {f : Nat} {s : Bool} {A : Option Addr} {n c : Nat} (h : NumOk w fl f s A n c) (hb : Below w.heap.size w w') : NumOk w' fl f s A n c := by
  obtain ⟨h1, h2 | ⟨h2, x, h3, h4⟩⟩ := h
  · exact ⟨h1, .inl h2⟩
  · exact ⟨h1, .inr ⟨h2, x, h3.keep hb, h4⟩⟩

abbrev CallB (w : World) (f : FuncId) (args : Array Value) (r : Value) : Prop := ∀ W, Below w.heap.size w W → Calls Tryz.prog f args W fun e w' => e = .returned r ∧ Below W.heap.size W w'

theorem cmp2_both {w : World} {fl : Bool} {f : Nat} {s : Bool} {A : Option Addr} {n c : Nat} {fl' : Bool} {f' : Nat} {s' : Bool} {A' : Option Addr} {n' c' : Nat} (ha : NumOk w fl f s A n c) (hb : NumOk w fl' f' s' A' n' c') :
    ∃ k ok, CallB w 42 #[numA fl f s A n c, numA fl' f' s' A' n' c'] (.tuple #[.int .i64 k, .bool ok]) ∧ CallB w 43 #[numA fl f s A n c, numA fl' f' s' A' n' c'] (.tuple #[.int .i64 k, .bool ok]) := by
  obtain ⟨hf, rfl | ⟨rfl, x, hx, nx⟩⟩ := ha
  · obtain ⟨hf', rfl | ⟨rfl, y, hy, ny⟩⟩ := hb
    · by_cases hn : nanW f ∨ nanW f'
      · exact ⟨0, false, fun W _ => tcmp_nan f f' hf hf' hn s A n c s' A' n' c' W, fun W _ => rtcmp_none f f' s A n c s' A' n' c' W (order_none f f' hn)⟩
      · have n1 : ¬ nanW f := fun h => hn (.inl h)
        have n2 : ¬ nanW f' := fun h => hn (.inr h)
        obtain ⟨o, ho⟩ := order_some f f' hf hf' n1 n2
        cases o
        · exact ⟨-1, true, fun W _ => tcmp_ff f f' (-1) hf hf' n1 n2 s A n c s' A' n' c' W (fun V => ccmp_lt f f' V hf hf' n1 n2 ho), fun W _ => rtcmp_lt f f' s A n c s' A' n' c' W ho⟩
        · exact ⟨0, true, fun W _ => tcmp_ff f f' 0 hf hf' n1 n2 s A n c s' A' n' c' W (fun V => ccmp_eq f f' V hf hf' n1 n2 ho), fun W _ => rtcmp_eq f f' s A n c s' A' n' c' W ho⟩
        · exact ⟨1, true, fun W _ => tcmp_ff f f' 1 hf hf' n1 n2 s A n c s' A' n' c' W (fun V => ccmp_gt f f' V hf hf' n1 n2 ho), fun W _ => rtcmp_gt f f' s A n c s' A' n' c' W ho⟩
    · obtain ⟨k, ok, hk, h1, h2⟩ := cmp_both y f hf ny
      exact ⟨-k, ok, fun W hW => tcmp_fi f f' k ok hk s A n c s' A' n' c' W (fun V hV => h1 _ V ((hy.keep hW).keep hV)), fun W hW => rtcmp_fi f f' k ok hk s A n c s' A' n' c' W (fun V hV => h2 _ V ((hy.keep hW).keep hV).toR)⟩
  · obtain ⟨hf', rfl | ⟨rfl, y, hy, ny⟩⟩ := hb
    · obtain ⟨k, ok, hk, h1, h2⟩ := cmp_both x f' hf' nx
      exact ⟨k, ok, fun W hW => tcmp_if f f' k ok s A n c s' A' n' c' W (fun V hV => h1 _ V ((hx.keep hW).keep hV)), fun W hW => rtcmp_if f f' k ok hk s A n c s' A' n' c' W (fun V hV => h2 _ V ((hx.keep hW).keep hV).toR)⟩
    · exact ⟨cmpI x y, true, fun W hW => tcmp_ii f f' (cmpI x y) (cmpI_bd x y) s A n c s' A' n' c' W (fun V hV => ecmp_int ((hx.keep hW).keep hV) ((hy.keep hW).keep hV) nx ny), fun W hW => rtcmp_ii f f' (cmpI x y) (cmpI_bd x y) s A n c s' A' n' c' W (fun V hV => rcmp2_int ((hx.keep hW).keep hV).toR ((hy.keep hW).keep hV).toR nx ny)⟩

theorem same2_both {w : World} {fl : Bool} {f : Nat} {s : Bool} {A : Option Addr} {n c : Nat} {fl' : Bool} {f' : Nat} {s' : Bool} {A' : Option Addr} {n' c' : Nat} (ha : NumOk w fl f s A n c) (hb : NumOk w fl' f' s' A' n' c') :
    ∃ b, CallB w 44 #[numA fl f s A n c, numA fl' f' s' A' n' c'] (.bool b) ∧ CallB w 41 #[numA fl f s A n c, numA fl' f' s' A' n' c'] (.bool b) := by
  obtain ⟨hf, rfl | ⟨rfl, x, hx, nx⟩⟩ := ha
  · obtain ⟨hf', rfl | ⟨rfl, y, hy, ny⟩⟩ := hb
    · exact ⟨canW f == canW f', fun W _ => tsame_ff f f' s A n c s' A' n' c' W _ (fun V => same_flo f f' V hf hf'), fun W _ => rtsame_ff f f' s A n c s' A' n' c' W _ (fun V => rsame_flo f f' V hf hf')⟩
    · exact ⟨false, fun W _ => tsame_fi f f' s A n c s' A' n' c' W, fun W _ => rtsame_fi f f' s A n c s' A' n' c' W⟩
  · obtain ⟨hf', rfl | ⟨rfl, y, hy, ny⟩⟩ := hb
    · exact ⟨false, fun W _ => tsame_if f f' s A n c s' A' n' c' W, fun W _ => rtsame_if f f' s A n c s' A' n' c' W⟩
    · exact ⟨decide (x = y), fun W hW => tsame_ii f f' s A n c s' A' n' c' W _ (fun V hV => esame_int ((hx.keep hW).keep hV) ((hy.keep hW).keep hV) nx ny), fun W hW => rtsame_ii f f' s A n c s' A' n' c' W _ (fun V hV => rsame2_int ((hx.keep hW).keep hV).toR ((hy.keep hW).keep hV).toR (fit_of nx))⟩

set_option maxRecDepth 10000000 in
set_option maxHeartbeats 2000000 in
/-- one that can't be -/
theorem torders_no (z : Int) (fl : Bool) (f : Nat) (s : Bool) (A : Option Addr) (n c : Nat) (fl' : Bool) (f' : Nat) (s' : Bool) (A' : Option Addr) (n' c' : Nat) (w : World) (hv : TV w)
    (hR : CallB w 39 #[numA fl f s A n c, numA fl' f' s' A' n' c'] (.bool false)) :
    Calls Tryz.prog 9 #[numA fl f s A n c, numA fl' f' s' A' n' c', .int .i64 z] w fun e w' => e = .returned (.bool true) ∧ Below w.heap.size w w' := by
  obtain ⟨W0, hW0, hb0, hO⟩ := two_num w fl f s A n c fl' f' s' A' n' c'
  have HB0 := Lib.hid hb0
  have O0 := Lib.hid hO
  have HW0 := Lib.hid hW0
  have AL := Lib.hid (talive_any W0 (hv.below hb0))
  have HR := Lib.hid hR
  clear hb0 hO hW0 hv hR
  go_enter Tryz.func9, Tryz.ntmps9
  go_wp2_with (fail)
  rw [HW0.out]
  refine AL.out.mono ?_
  rintro e w1 ⟨rfl, hb1⟩
  have O1 := Lib.hid (O0.out.below hb1)
  have HB1 := Lib.hid (bel_trans (B := w.heap.size) HB0.out hb1)
  clear hb1
  obtain ⟨p0, p1, p2, p3, -, -, -, -, pl⟩ := O1.out.nx0.facts
  obtain ⟨q0, q1, q2, q3, -, -, -, -, ql⟩ := O1.out.tl.nx0.facts
  go_wp2_with (fail)
  refine (HR.out _ HB1.out).mono ?_
  rintro e w2 ⟨rfl, hb2⟩
  have HB2 := Lib.hid (bel_trans (B := w.heap.size) HB1.out hb2)
  clear hb2 p0 p1 p2 p3 pl q0 q1 q2 q3 ql
  go_wp2_with (fail)
  go_ret
  exact ⟨rfl, HB2.out⟩

set_option maxRecDepth 10000000 in
set_option maxHeartbeats 4000000 in
theorem torders_yes (z : Int) (hz1 : -9223372036854775808 ≤ z) (hz2 : z ≤ 9223372036854775807) (fl : Bool) (f : Nat) (s : Bool) (A : Option Addr) (n c : Nat) (fl' : Bool) (f' : Nat) (s' : Bool) (A' : Option Addr) (n' c' : Nat) (k : Int) (ok b : Bool) (w : World) (hv : TV w) (hf : f < 18446744073709551616)
    (hR : CallB w 39 #[numA fl f s A n c, numA fl' f' s' A' n' c'] (.bool true))
    (hP : CallB w 42 #[numA fl f s A n c, numA fl' f' s' A' n' c'] (.tuple #[.int .i64 k, .bool ok])) (hQ : CallB w 43 #[numA fl f s A n c, numA fl' f' s' A' n' c'] (.tuple #[.int .i64 k, .bool ok]))
    (hS : CallB w 44 #[numA fl f s A n c, numA fl' f' s' A' n' c'] (.bool b)) (hT : CallB w 41 #[numA fl f s A n c, numA fl' f' s' A' n' c'] (.bool b)) :
    Calls Tryz.prog 9 #[numA fl f s A n c, numA fl' f' s' A' n' c', .int .i64 z] w fun e w' => e = .returned (.bool true) ∧ Below w.heap.size w w' := by
  obtain ⟨W0, hW0, hb0, hO⟩ := two_num w fl f s A n c fl' f' s' A' n' c'
  have HB0 := Lib.hid hb0
  have O0 := Lib.hid hO
  have HW0 := Lib.hid hW0
  have AL := Lib.hid (talive_any W0 (hv.below hb0))
  have HR := Lib.hid hR
  have HP := Lib.hid hP
  have HQ := Lib.hid hQ
  have HS := Lib.hid hS
  have HT := Lib.hid hT
  have TI := Lib.hid (tint_any z hz1 hz2)
  have RI := Lib.hid (rtint_any z hz1 hz2)
  have TF := Lib.hid (tflo_any f)
  have RF := Lib.hid (rtflo_any f)
  have NZ := Lib.hid (show ¬ BigI z from small_not_big (by omega))
  have SF := Lib.hid fun W => tsame_ff f f false none 0 0 false none 0 0 W true (fun V => by
    have h := same_flo f f V hf hf
    rw [show (canW f == canW f) = true from by rw [beq_iff_eq]] at h
    exact h)
  have g1 : (k == k) = true := by rw [beq_iff_eq]
  have g2 : (ok == ok) = true := by cases ok <;> rfl
  have g3 : (b == b) = true := by cases b <;> rfl
  clear hb0 hO hW0 hv hR hP hQ hS hT
  go_enter Tryz.func9, Tryz.ntmps9
  go_wp2_with (fail)
  rw [HW0.out]
  refine AL.out.mono ?_
  rintro e w1 ⟨rfl, hb1⟩
  have O1 := Lib.hid (O0.out.below hb1)
  have HB1 := Lib.hid (bel_trans (B := w.heap.size) HB0.out hb1)
  clear hb1
  obtain ⟨p0, p1, p2, p3, -, -, -, -, pl⟩ := O1.out.nx0.facts
  obtain ⟨q0, q1, q2, q3, -, -, -, -, ql⟩ := O1.out.tl.nx0.facts
  go_wp2_with (fail)
  refine (HR.out _ HB1.out).mono ?_
  rintro e w2 ⟨rfl, hb2⟩
  have O2 := Lib.hid (O1.out.below hb2)
  have HB2 := Lib.hid (bel_trans (B := w.heap.size) HB1.out hb2)
  clear hb2 p0 p1 p2 p3 pl q0 q1 q2 q3 ql
  obtain ⟨p0, p1, p2, p3, -, -, -, -, pl⟩ := O2.out.nx0.facts
  obtain ⟨q0, q1, q2, q3, -, -, -, -, ql⟩ := O2.out.tl.nx0.facts
  go_wp2_with (fail)
  refine (HP.out _ HB2.out).mono ?_
  rintro e w3 ⟨rfl, hb3⟩
  have O3 := Lib.hid (O2.out.below hb3)
  have HB3 := Lib.hid (bel_trans (B := w.heap.size) HB2.out hb3)
  clear hb3 p0 p1 p2 p3 pl q0 q1 q2 q3 ql
  obtain ⟨p0, p1, p2, p3, -, -, -, -, pl⟩ := O3.out.nx0.facts
  obtain ⟨q0, q1, q2, q3, -, -, -, -, ql⟩ := O3.out.tl.nx0.facts
  go_wp2_with (fail)
  refine (HQ.out _ HB3.out).mono ?_
  rintro e w4 ⟨rfl, hb4⟩
  have O4 := Lib.hid (O3.out.below hb4).drew
  have HB4 := Lib.hid (bel_trans (B := w.heap.size) HB3.out hb4).drew
  have D1 := Lib.hid (HS.out _ HB4.out)
  have KS : Hid (∀ W, Obs W [(w.heap.size + 1, numO fl' f' s' A' n' c'), (w.heap.size, numO fl f s A n c)] → W.cell? ⟨w.heap.size, 0, none⟩ = some (.bool fl) ∧ W.cell? ⟨w.heap.size, 1, none⟩ = some (.float .f64 f) ∧ W.cell? ⟨w.heap.size, 2, none⟩ = some (.bool s) ∧ W.cell? ⟨w.heap.size, 3, none⟩ = some (.slice A n c) ∧
      W.cell? ⟨w.heap.size + 1, 0, none⟩ = some (.bool fl') ∧ W.cell? ⟨w.heap.size + 1, 1, none⟩ = some (.float .f64 f') ∧ W.cell? ⟨w.heap.size + 1, 2, none⟩ = some (.bool s') ∧ W.cell? ⟨w.heap.size + 1, 3, none⟩ = some (.slice A' n' c')) := Lib.hid fun W h => by
    have h1 := ob_cell h.hd
    have h2 := ob_cell h.tl.hd
    exact ⟨h2 0, h2 1, h2 2, h2 3, h1 0, h1 1, h1 2, h1 3⟩
  clear hb4 p0 p1 p2 p3 pl q0 q1 q2 q3 ql
  go_wp2
  go_region_held3 (fun W => W.cell? ⟨w.heap.size, 0, none⟩ = some (.bool fl) ∧ W.cell? ⟨w.heap.size, 1, none⟩ = some (.float .f64 f) ∧ W.cell? ⟨w.heap.size, 2, none⟩ = some (.bool s) ∧ W.cell? ⟨w.heap.size, 3, none⟩ = some (.slice A n c) ∧
      W.cell? ⟨w.heap.size + 1, 0, none⟩ = some (.bool fl') ∧ W.cell? ⟨w.heap.size + 1, 1, none⟩ = some (.float .f64 f') ∧ W.cell? ⟨w.heap.size + 1, 2, none⟩ = some (.bool s') ∧ W.cell? ⟨w.heap.size + 1, 3, none⟩ = some (.slice A' n' c'))
    ((exact KS.out _ (Hid.out (by assumption))))
    (first
      | (go_at_call 44; (with_reducible refine D1.out.mono ?_); rintro e v1 ⟨rfl, hbz⟩; have O5 := Lib.hid (O4.out.below hbz); have HB5 := Lib.hid (bel_trans (B := w.heap.size) HB4.out hbz); have D2 := Lib.hid (HT.out _ HB5.out); clear hbz)
      | (go_at_call 41; (with_reducible refine D2.out.mono ?_); rintro e v2 ⟨rfl, hbz⟩; have O6 := Lib.hid (O5.out.below hbz); have HB6 := Lib.hid (bel_trans (B := w.heap.size) HB5.out hbz); have D3 := Lib.hid (TI.out v2); clear hbz)
      | (go_at_call 33; (with_reducible refine D3.out.mono ?_); rintro e v3 ⟨s3, A3, n3, c3, rfl, hvz, hbz⟩; have O7 := Lib.hid (O6.out.below hbz); have HB7 := Lib.hid (bel_trans (B := w.heap.size) HB6.out hbz); have V7 := Lib.hid hvz; have D4 := Lib.hid (RI.out v3); clear hbz hvz)
      | (go_at_call 45; (with_reducible refine D4.out.mono ?_); rintro e v4 ⟨s4, A4, n4, c4, rfl, hvz, hbz⟩; have O8 := Lib.hid (O7.out.below hbz); have HB8 := Lib.hid (bel_trans (B := w.heap.size) HB7.out hbz); have V8 := Lib.hid hvz; have V78 := Lib.hid (V7.out.keep hbz); have D5 := Lib.hid (tsame_ii 0 0 s3 A3 n3 c3 s4 A4 n4 c4 v4 true (fun V hV => by have h := esame_int (V78.out.keep hV) (V8.out.keep hV) NZ.out NZ.out; rw [decide_eq_true rfl] at h; exact h)); clear hbz hvz)
      | (go_at_call 44; (with_reducible refine D5.out.mono ?_); rintro e v5 ⟨rfl, hbz⟩; have O9 := Lib.hid (O8.out.below hbz); have HB9 := Lib.hid (bel_trans (B := w.heap.size) HB8.out hbz); have D6 := Lib.hid (TF.out v5); clear hbz)
      | (go_at_call 34; (with_reducible refine D6.out.mono ?_); rintro e v6 ⟨rfl, hbz⟩; have Oa := Lib.hid (O9.out.below hbz); have HBa := Lib.hid (bel_trans (B := w.heap.size) HB9.out hbz); have D7 := Lib.hid (RF.out v6); clear hbz)
      | (go_at_call 46; (with_reducible refine D7.out.mono ?_); rintro e v7 ⟨rfl, hbz⟩; have Ob := Lib.hid (Oa.out.below hbz); have HBb := Lib.hid (bel_trans (B := w.heap.size) HBa.out hbz); have D8 := Lib.hid (SF.out v7); clear hbz)
      | (go_at_call 44; (with_reducible refine D8.out.mono ?_); rintro e v8 ⟨rfl, hbz⟩; have Oc := Lib.hid (Ob.out.below hbz); have HBc := Lib.hid (bel_trans (B := w.heap.size) HBb.out hbz); clear hbz))
  all_goals
    go_wp2
    go_ret
    exact ⟨rfl, HBc.out⟩

theorem orders_walk_t (z : Int) (hz1 : -9223372036854775808 ≤ z) (hz2 : z ≤ 9223372036854775807) (fl : Bool) (f : Nat) (s : Bool) (A : Option Addr) (ca : Nat) (xs : List Nat) (fl' : Bool) (f' : Nat) (t : Bool) (B : Option Addr) (cb : Nat) (ys : List Nat) (w : World) (hv : TV w) (hf : f < 18446744073709551616) (hf' : f' < 18446744073709551616)
    (ha : Rd w A xs) (hb : Rd w B ys) (hx : Lm xs) (hy : Lm ys) (hca : xs.length ≤ ca) (hcb : ys.length ≤ cb) (hcam : ca ≤ 9223372036854775807) (hcbm : cb ≤ 9223372036854775807) (hna : A = none → xs.length = 0 ∧ ca = 0) (hnb : B = none → ys.length = 0 ∧ cb = 0) :
    Calls Tryz.prog 9 #[numA fl f s A xs.length ca, numA fl' f' t B ys.length cb, .int .i64 z] w fun e w' => e = .returned (.bool true) ∧ Below w.heap.size w w' := by
  have hR : CallB w 39 #[numA fl f s A xs.length ca, numA fl' f' t B ys.length cb] (.bool (rightN fl f s xs && rightN fl' f' t ys)) := fun W hW =>
    right2_any fl f s A xs.length ca fl' f' t B ys.length cb _ _ W (fun W' h' => rnright_any fl f s A ca xs W' ((ha.below hW).below h') hx hca hcam hna) (fun W' h' => rnright_any fl' f' t B cb ys W' ((hb.below hW).below h') hy hcb hcbm hnb)
  by_cases hr : (rightN fl f s xs && rightN fl' f' t ys) = true
  · rw [hr] at hR
    rw [Bool.and_eq_true] at hr
    have o1 := numOk_of hr.1 hf ha hx hca hcam
    have o2 := numOk_of hr.2 hf' hb hy hcb hcbm
    obtain ⟨k, ok, h1, h2⟩ := cmp2_both o1 o2
    obtain ⟨b, h3, h4⟩ := same2_both o1 o2
    exact torders_yes z hz1 hz2 fl f s A xs.length ca fl' f' t B ys.length cb k ok b w hv hf hR h1 h2 h3 h4
  · have hr0 : (rightN fl f s xs && rightN fl' f' t ys) = false := by simpa using hr
    rw [hr0] at hR
    exact torders_no z fl f s A xs.length ca fl' f' t B ys.length cb w hv hR

end LM
end Go.Proofs.YtpaefbojilnnnaaGreatDoor
