/- Walks for sums: exact's Sub; the document's Same, capped, Add, Sub, Mul, Cmp. -/
import Derived.Test.YtfckjapedjjhpaaDoorExactS
import Derived.Test.YtfckjapedjjhpaaDoorExactG
import Derived.Test.YtfckjapedjjhpaaDoorExactH
import Derived.Test.YtfckjapedjjhpaaDoorExactAlive
import Derived.Test.YtfckjapedjjhpaaDoorExactR
import Derived.Test.YtfckjapedjjhpaaDoorLimbQ
namespace Go.Proofs.YtfckjapedjjhpaaDoor
open Go.RowKit
namespace LM
set_option linter.unusedVariables false

theorem big_neg {z : Int} (h : ¬ BigI z) : ¬ BigI (-z) := by unfold BigI; rw [Int.natAbs_neg]; exact h

set_option maxRecDepth 100000 in
set_option maxHeartbeats 1000000 in
theorem esub_any (s t : Bool) (A B : Option Addr) (n ca m cb : Nat) (w : World) (x y : Int) (ha : IntV w (.agg #[.bool s, .slice A n ca]) x) (hb : IntV w (.agg #[.bool t, .slice B m cb]) y) (hx : ¬ BigI x) (hy : ¬ BigI y) :
    Calls Tryd.prog 22 #[.agg #[.bool s, .slice A n ca], .agg #[.bool t, .slice B m cb]] w (RetE w (x - y)) := by
  obtain ⟨hb0, x0, y0, z0⟩ := new3 w s t A B n ca m cb
  have HB1 := Lib.hid hb0.drew
  have X1 := Lib.hid x0.drew
  have Y1 := Lib.hid y0.drew
  have Z1 := Lib.hid z0.drew
  have VX1 := Lib.hid (ha.keep hb0).drew
  have H1 := Lib.hid (eneg_int (hb.keep hb0).drew hy)
  have NX := Lib.hid hx
  have NY := Lib.hid hy
  clear hb0 x0 y0 z0 ha hb hx hy
  go_enter Tryd.func22, Tryd.ntmps22
  go_wp2
  go_region_held3 (fun W => W.cell? ⟨w.heap.size, 0, none⟩ = some (.bool s) ∧ W.cell? ⟨w.heap.size, 1, none⟩ = some (.slice A n ca) ∧ W.cell? ⟨w.heap.size + 1, 0, none⟩ = some (.bool t) ∧ W.cell? ⟨w.heap.size + 1, 1, none⟩ = some (.slice B m cb))
    ((refine ⟨Bx.c0 (A := A) (n := n) (c := ca) ?_, Bx.c1 (b := s) ?_, Bx.c0 (A := B) (n := m) (c := cb) ?_, Bx.c1 (b := t) ?_⟩ <;> (repeat' (first | (with_reducible exact Hid.out (by assumption)) | (with_reducible refine Bx.alloc ?_ _) | (with_reducible refine Bx.set ?_ _ (by simp <;> omega))))))
    (first
      | (go_at_call 30; (with_reducible refine H1.out.mono ?_); intro e w2 hr; obtain ⟨s2, A2, n2, c2, rfl, hv2, hb2⟩ := hr.gen; have X2 := Lib.hid (X1.out.below hb2); have Y2 := Lib.hid (Y1.out.below hb2); have Z2 := Lib.hid (Z1.out.below hb2); have HB2 := Lib.hid (HB1.out.trans (hb2.mono HB1.out.size)); have H2 := Lib.hid (eadd_int (VX1.out.keep hb2) hv2 NX.out (big_neg NY.out)); clear hr hv2 hb2)
      | (go_at_call 21; (with_reducible refine H2.out.mono ?_); rintro e w3 ⟨s3, A3, n3, c3, er, rfl, hc3, hb3⟩; have X3 := Lib.hid (X2.out.below hb3); have Y3 := Lib.hid (Y2.out.below hb3); have Z3 := Lib.hid (Z2.out.below hb3); obtain ⟨q0, q1, z0, z1, zl⟩ := Z3.out.facts; have HB3 := Lib.hid (HB2.out.trans (hb3.mono HB2.out.size)); have HC3 := Lib.hid hc3; clear hb3 hc3))
  all_goals
    obtain ⟨W4, hW4, Z, hb4, hv4, -, -, -⟩ := stored_world Z3.out HB3.out (by omega) s3 A3 n3 c3
    rw [hW4]
    obtain ⟨c0, c1, -, -, -⟩ := Z.facts
    have hret : RetE w (x - y) (.returned (.tuple #[.agg #[.bool s3, .slice A3 n3 c3], .int .i64 er])) W4 :=
      ⟨s3, A3, n3, c3, er, rfl, by
        have h := HC3.out
        rw [← Int.sub_eq_add_neg] at h
        exact h.imp (fun h => ⟨h.1, h.2.1, hv4 _ _ h.2.2⟩) (fun h => ⟨h.1, h.2.1, hv4 _ _ h.2.2⟩), hb4⟩
    have HRET := Lib.hid hret
    clear q0 q1 z0 z1 zl hW4 hv4 hret
    go_wp2
    refine bodyPost_ret (v := .tuple #[.agg #[.bool s3, .slice A3 n3 c3], .int .i64 er]) (by simp [results, Tryd.results22, go_sem, c0, c1]) rfl ?_
    exact HRET.out
theorem esub_int {va vb : Value} {x y : Int} {w : World} (ha : IntV w va x) (hb : IntV w vb y) (hx : ¬ BigI x) (hy : ¬ BigI y) : Calls Tryd.prog 22 #[va, vb] w (RetE w (x - y)) := by
  obtain ⟨A, n, ca, rfl⟩ := ha.bx
  obtain ⟨B, m, cb, rfl⟩ := hb.bx
  exact esub_any _ _ A B n ca m cb w x y ha hb hx hy

/-- the document's answer, capped -/
def RetC (w : World) (z : Int) (e : Ending) (w' : World) : Prop := ∃ s A n c er, e = .returned (.tuple #[.agg #[.bool s, .slice A n c], .int .i64 er]) ∧
  ((BigI z ∧ er = 11 ∧ IntR w' (.agg #[.bool s, .slice A n c]) 0) ∨ (¬ BigI z ∧ er = 0 ∧ IntR w' (.agg #[.bool s, .slice A n c]) z)) ∧ Below w.heap.size w w'
theorem intR_nil (w : World) : IntR w (.agg #[.bool false, .slice none 0 0]) 0 := ⟨none, 0, [], rfl, Rd.nil, can_nil, rfl⟩

set_option maxRecDepth 100000 in
set_option maxHeartbeats 1000000 in
theorem rcapped_big (s : Bool) (A : Option Addr) (n c : Nat) (w : World) (z : Int) (ha : IntR w (.agg #[.bool s, .slice A n c]) z) (hz : BigI z) (hn : n ≤ 1000000) :
    Calls Tryd.prog 52 #[.agg #[.bool s, .slice A n c]] w (RetC w z) := by
  have hd : decide (64 < n) = true := by rw [decide_eq_decide.2 ha.parts.2.2.2]; exact decide_eq_true hz
  have hdi : decide (64 < (n : Int)) = true := by rw [← hd]; exact decide_eq_decide.2 (by omega)
  obtain ⟨hb0, x0, y0⟩ := new2 w s A n c
  have HB0 := Lib.hid hb0
  have Y0 := Lib.hid y0
  have HV := Lib.hid (ha.keep hb0)
  have HZ := Lib.hid hz
  have HVA := Lib.hid ha
  clear hb0 x0 y0 ha hz
  go_enter Tryd.func52, Tryd.ntmps52
  go_wp2
  refine bodyPost_ret (v := .tuple #[.agg #[.bool false, .slice none 0 0], .int .i64 11]) (by simp [results, Tryd.results52, go_sem]) rfl ?_
  exact ⟨false, none, 0, 0, 11, rfl, .inl ⟨HZ.out, rfl, intR_nil _⟩, HB0.out⟩

set_option maxRecDepth 100000 in
set_option maxHeartbeats 1000000 in
theorem rcapped_fit (s : Bool) (A : Option Addr) (n c : Nat) (w : World) (z : Int) (ha : IntR w (.agg #[.bool s, .slice A n c]) z) (hz : ¬ BigI z) (hn : n ≤ 1000000) :
    Calls Tryd.prog 52 #[.agg #[.bool s, .slice A n c]] w (RetC w z) := by
  have hd : decide (64 < n) = false := by rw [decide_eq_decide.2 ha.parts.2.2.2]; exact decide_eq_false hz
  have hdi : decide (64 < (n : Int)) = false := by rw [← hd]; exact decide_eq_decide.2 (by omega)
  obtain ⟨hb0, x0, y0⟩ := new2 w s A n c
  have HB0 := Lib.hid hb0
  have Y0 := Lib.hid y0
  have HV := Lib.hid (ha.keep hb0)
  have HZ := Lib.hid hz
  have HVA := Lib.hid ha
  clear hb0 x0 y0 ha hz
  go_enter Tryd.func52, Tryd.ntmps52
  go_wp2
  refine bodyPost_ret (v := .tuple #[.agg #[.bool s, .slice A n c], .int .i64 0]) (by simp [results, Tryd.results52, go_sem]) rfl ?_
  exact ⟨s, A, n, c, 0, rfl, .inr ⟨HZ.out, rfl, (HVA.out.alloc (.cells #[.bool s, .slice A n c] 24)).alloc (.cells #[.bool s, .slice A n c] 24)⟩, ((Below.refl _ w).alloc (Nat.le_refl _) _).alloc (by simp) _⟩

theorem rcapped_int {v : Value} {z : Int} {w : World} (ha : IntR w v z) (hf : FitI z) : Calls Tryd.prog 52 #[v] w (RetC w z) := by
  obtain ⟨A, n, c, rfl⟩ := ha.bx
  have hn := ha.parts.2.2.1 hf
  by_cases hz : BigI z
  · exact rcapped_big _ A n c w z ha hz (by omega)
  · exact rcapped_fit _ A n c w z ha hz (by omega)

set_option maxRecDepth 100000 in
set_option maxHeartbeats 1000000 in
theorem rsame2_diff (s t : Bool) (hst : ¬ s = t) (A B : Option Addr) (ca cb : Nat) (xs ys : List Nat) (w : World) (ha : Rd w A xs) (hb : Rd w B ys) (hxl : xs.length ≤ 1000000) :
    Calls Tryd.prog 27 #[.agg #[.bool s, .slice A xs.length ca], .agg #[.bool t, .slice B ys.length cb]] w fun e w' => e = .returned (.bool (false)) ∧ Below w.heap.size w w' := by
  have heq : (s == t) = false := by simp; exact hst
  obtain ⟨hb0, x0, y0⟩ := newp2 w s t A B xs.length ca ys.length cb
  have HB0 := Lib.hid hb0
  have H1 := Lib.hid (same_any A B ca cb xs ys _ (ha.below hb0) (hb.below hb0) hxl)
  clear hb0 x0 y0 ha hb hst
  go_enter Tryd.func27, Tryd.ntmps27
  go_wp2
  go_ret
  exact ⟨rfl, HB0.out⟩

set_option maxRecDepth 100000 in
set_option maxHeartbeats 1000000 in
theorem rsame2_same (s : Bool)  (A B : Option Addr) (ca cb : Nat) (xs ys : List Nat) (w : World) (ha : Rd w A xs) (hb : Rd w B ys) (hxl : xs.length ≤ 1000000) :
    Calls Tryd.prog 27 #[.agg #[.bool s, .slice A xs.length ca], .agg #[.bool s, .slice B ys.length cb]] w fun e w' => e = .returned (.bool (sameB xs ys)) ∧ Below w.heap.size w w' := by
  have heq : (s == s) = true := by simp
  obtain ⟨hb0, x0, y0⟩ := newp2 w s s A B xs.length ca ys.length cb
  have HB0 := Lib.hid hb0
  have H1 := Lib.hid (same_any A B ca cb xs ys _ (ha.below hb0) (hb.below hb0) hxl)
  clear hb0 x0 y0 ha hb
  go_enter Tryd.func27, Tryd.ntmps27
  go_wp2_with fail
  refine H1.out.mono ?_
  rintro e w2 ⟨rfl, hb2⟩
  have HB2 := Lib.hid (HB0.out.trans (hb2.mono HB0.out.size))
  clear hb2
  go_wp2
  go_ret
  exact ⟨rfl, HB2.out⟩

theorem rsame2_int {va vb : Value} {x y : Int} {w : World} (ha : IntR w va x) (hb : IntR w vb y) (hx : FitI x) : Calls Tryd.prog 27 #[va, vb] w fun e w' => e = .returned (.bool (decide (x = y))) ∧ Below w.heap.size w w' := by
  obtain ⟨A, ca, xs, rfl, h3, h4, h5⟩ := ha
  obtain ⟨B, cb, ys, rfl, k3, k4, k5⟩ := hb
  have l1 := fit_len h4 h5 hx
  by_cases hs : decide (x < 0) = decide (y < 0)
  · have h := rsame2_same (decide (x < 0)) A B ca cb xs ys w h3 k3 (by omega)
    have he : sameB xs ys = decide (x = y) := by
      unfold sameB
      refine decide_eq_decide.2 ⟨fun e => ?_, fun e => can_ext h4 k4 (by rw [h5, k5, e])⟩
      have e1 := sg_self2 h5
      have e2 := sg_self2 k5
      rw [← e1, ← e2, hs, e]
    rw [he] at h
    rw [← hs]
    exact h
  · have h := rsame2_diff (decide (x < 0)) (decide (y < 0)) hs A B ca cb xs ys w h3 k3 (by omega)
    rw [show decide (x = y) = false from decide_eq_false fun e => hs (by rw [e])]
    exact h
theorem fit_add {x y : Int} (hx : ¬ BigI x) (hy : ¬ BigI y) : FitI (x + y) := by
  have h1 : x.natAbs < 4294967296 ^ 64 := Nat.lt_of_not_le hx
  have h2 : y.natAbs < 4294967296 ^ 64 := Nat.lt_of_not_le hy
  have h3 : 4294967296 ^ 65 ≤ 4294967296 ^ 130 := Nat.pow_le_pow_right (by decide) (by decide)
  have h4 : (4294967296 : Nat) ^ 65 = 4294967296 ^ 64 * 4294967296 := Nat.pow_succ ..
  have h5 := Int.natAbs_add_le x y
  unfold FitI
  generalize 4294967296 ^ 130 = Q at *
  generalize 4294967296 ^ 65 = R at *
  generalize 4294967296 ^ 64 = P at *
  omega

set_option maxRecDepth 100000 in
set_option maxHeartbeats 1000000 in
theorem radd2_any (s t : Bool) (A B : Option Addr) (n ca m cb : Nat) (w : World) (x y : Int) (ha : IntR w (.agg #[.bool s, .slice A n ca]) x) (hb : IntR w (.agg #[.bool t, .slice B m cb]) y) (hx : ¬ BigI x) (hy : ¬ BigI y) :
    Calls Tryd.prog 24 #[.agg #[.bool s, .slice A n ca], .agg #[.bool t, .slice B m cb]] w (RetC w (x + y)) := by
  obtain ⟨hb0, x0, y0, z0⟩ := new3 w s t A B n ca m cb
  have HB0 := Lib.hid hb0
  have Z0 := Lib.hid z0
  have H1 := Lib.hid (rplus_int (ha.keep hb0) (hb.keep hb0) (fit_of hx) (fit_of hy))
  have HF := Lib.hid (fit_add hx hy)
  clear hb0 x0 y0 z0 ha hb hx hy
  go_enter Tryd.func24, Tryd.ntmps24
  go_wp2_with fail
  refine H1.out.mono ?_
  rintro e w2 ⟨s2, A2, n2, c2, rfl, hv2, hb2⟩
  have Z2 := Lib.hid (Z0.out.below hb2)
  have HB2 := Lib.hid (HB0.out.trans (hb2.mono HB0.out.size))
  have H2 := Lib.hid (rcapped_int hv2 HF.out)
  clear hv2 hb2
  go_wp2_with fail
  refine H2.out.mono ?_
  rintro e w3 ⟨s3, A3, n3, c3, er, rfl, hc3, hb3⟩
  have Z3 := Lib.hid (Z2.out.below hb3)
  obtain ⟨q0, q1, z0, z1, zl⟩ := Z3.out.facts
  have HB3 := Lib.hid (HB2.out.trans (hb3.mono HB2.out.size))
  have HC3 := Lib.hid hc3
  clear hb3 hc3
  go_wp2
  obtain ⟨W4, hW4, Z, hb4, -, hv4, -, -⟩ := stored_world Z3.out HB3.out (by omega) s3 A3 n3 c3
  rw [hW4]
  obtain ⟨c0, c1, -, -, -⟩ := Z.facts
  have hret : RetC w (x + y) (.returned (.tuple #[.agg #[.bool s3, .slice A3 n3 c3], .int .i64 er])) W4 :=
    ⟨s3, A3, n3, c3, er, rfl, by
      have h := HC3.out
      exact h.imp (fun h => ⟨h.1, h.2.1, hv4 _ _ h.2.2⟩) (fun h => ⟨h.1, h.2.1, hv4 _ _ h.2.2⟩), hb4⟩
  have HRET := Lib.hid hret
  clear q0 q1 z0 z1 zl hW4 hv4 hret
  refine bodyPost_ret (v := .tuple #[.agg #[.bool s3, .slice A3 n3 c3], .int .i64 er]) (by simp [results, Tryd.results24, go_sem, c0, c1]) rfl ?_
  exact HRET.out
theorem radd2_int {va vb : Value} {x y : Int} {w : World} (ha : IntR w va x) (hb : IntR w vb y) (hx : ¬ BigI x) (hy : ¬ BigI y) : Calls Tryd.prog 24 #[va, vb] w (RetC w (x + y)) := by
  obtain ⟨A, n, ca, rfl⟩ := ha.bx
  obtain ⟨B, m, cb, rfl⟩ := hb.bx
  exact radd2_any _ _ A B n ca m cb w x y ha hb hx hy

set_option maxRecDepth 100000 in
set_option maxHeartbeats 1000000 in
theorem rmul2_any (s t : Bool) (A B : Option Addr) (n ca m cb : Nat) (w : World) (x y : Int) (ha : IntR w (.agg #[.bool s, .slice A n ca]) x) (hb : IntR w (.agg #[.bool t, .slice B m cb]) y) (hx : ¬ BigI x) (hy : ¬ BigI y) :
    Calls Tryd.prog 26 #[.agg #[.bool s, .slice A n ca], .agg #[.bool t, .slice B m cb]] w (RetC w (x * y)) := by
  obtain ⟨hb0, x0, y0, z0⟩ := new3 w s t A B n ca m cb
  have HB0 := Lib.hid hb0
  have Z0 := Lib.hid z0
  have H1 := Lib.hid (rtimes_int (ha.keep hb0) (hb.keep hb0) hx hy)
  have HF := Lib.hid (fit_mul hx hy)
  clear hb0 x0 y0 z0 ha hb hx hy
  go_enter Tryd.func26, Tryd.ntmps26
  go_wp2_with fail
  refine H1.out.mono ?_
  rintro e w2 ⟨s2, A2, n2, c2, rfl, hv2, hb2⟩
  have Z2 := Lib.hid (Z0.out.below hb2)
  have HB2 := Lib.hid (HB0.out.trans (hb2.mono HB0.out.size))
  have H2 := Lib.hid (rcapped_int hv2 HF.out)
  clear hv2 hb2
  go_wp2_with fail
  refine H2.out.mono ?_
  rintro e w3 ⟨s3, A3, n3, c3, er, rfl, hc3, hb3⟩
  have Z3 := Lib.hid (Z2.out.below hb3)
  obtain ⟨q0, q1, z0, z1, zl⟩ := Z3.out.facts
  have HB3 := Lib.hid (HB2.out.trans (hb3.mono HB2.out.size))
  have HC3 := Lib.hid hc3
  clear hb3 hc3
  go_wp2
  obtain ⟨W4, hW4, Z, hb4, -, hv4, -, -⟩ := stored_world Z3.out HB3.out (by omega) s3 A3 n3 c3
  rw [hW4]
  obtain ⟨c0, c1, -, -, -⟩ := Z.facts
  have hret : RetC w (x * y) (.returned (.tuple #[.agg #[.bool s3, .slice A3 n3 c3], .int .i64 er])) W4 :=
    ⟨s3, A3, n3, c3, er, rfl, by
      have h := HC3.out
      exact h.imp (fun h => ⟨h.1, h.2.1, hv4 _ _ h.2.2⟩) (fun h => ⟨h.1, h.2.1, hv4 _ _ h.2.2⟩), hb4⟩
  have HRET := Lib.hid hret
  clear q0 q1 z0 z1 zl hW4 hv4 hret
  refine bodyPost_ret (v := .tuple #[.agg #[.bool s3, .slice A3 n3 c3], .int .i64 er]) (by simp [results, Tryd.results26, go_sem, c0, c1]) rfl ?_
  exact HRET.out
theorem rmul2_int {va vb : Value} {x y : Int} {w : World} (ha : IntR w va x) (hb : IntR w vb y) (hx : ¬ BigI x) (hy : ¬ BigI y) : Calls Tryd.prog 26 #[va, vb] w (RetC w (x * y)) := by
  obtain ⟨A, n, ca, rfl⟩ := ha.bx
  obtain ⟨B, m, cb, rfl⟩ := hb.bx
  exact rmul2_any _ _ A B n ca m cb w x y ha hb hx hy

set_option maxRecDepth 100000 in
set_option maxHeartbeats 1000000 in
theorem rsub2_any (s t : Bool) (A B : Option Addr) (n ca m cb : Nat) (w : World) (x y : Int) (ha : IntR w (.agg #[.bool s, .slice A n ca]) x) (hb : IntR w (.agg #[.bool t, .slice B m cb]) y) (hx : ¬ BigI x) (hy : ¬ BigI y) :
    Calls Tryd.prog 25 #[.agg #[.bool s, .slice A n ca], .agg #[.bool t, .slice B m cb]] w (RetC w (x - y)) := by
  obtain ⟨hb0, x0, y0, z0⟩ := new3 w s t A B n ca m cb
  have HB1 := Lib.hid hb0.drew
  have X1 := Lib.hid x0.drew
  have Y1 := Lib.hid y0.drew
  have Z1 := Lib.hid z0.drew
  have VX1 := Lib.hid (ha.keep hb0).drew
  have H1 := Lib.hid (rneg_int (hb.keep hb0).drew (fit_of hy))
  have NX := Lib.hid hx
  have NY := Lib.hid hy
  clear hb0 x0 y0 z0 ha hb hx hy
  go_enter Tryd.func25, Tryd.ntmps25
  go_wp2
  go_region_held3 (fun W => W.cell? ⟨w.heap.size, 0, none⟩ = some (.bool s) ∧ W.cell? ⟨w.heap.size, 1, none⟩ = some (.slice A n ca) ∧ W.cell? ⟨w.heap.size + 1, 0, none⟩ = some (.bool t) ∧ W.cell? ⟨w.heap.size + 1, 1, none⟩ = some (.slice B m cb))
    ((refine ⟨Bx.c0 (A := A) (n := n) (c := ca) ?_, Bx.c1 (b := s) ?_, Bx.c0 (A := B) (n := m) (c := cb) ?_, Bx.c1 (b := t) ?_⟩ <;> (repeat' (first | (with_reducible exact Hid.out (by assumption)) | (with_reducible refine Bx.alloc ?_ _) | (with_reducible refine Bx.set ?_ _ (by simp <;> omega))))))
    (first
      | (go_at_call 31; (with_reducible refine H1.out.mono ?_); rintro e w2 ⟨s2, A2, n2, c2, rfl, hv2, hb2⟩; have X2 := Lib.hid (X1.out.below hb2); have Y2 := Lib.hid (Y1.out.below hb2); have Z2 := Lib.hid (Z1.out.below hb2); have HB2 := Lib.hid (HB1.out.trans (hb2.mono HB1.out.size)); have H2 := Lib.hid (rplus_int (VX1.out.keep hb2) hv2 (fit_of NX.out) (fit_neg (fit_of NY.out))); clear hv2 hb2)
      | (go_at_call 53; (with_reducible refine H2.out.mono ?_); rintro e w5 ⟨s5, A5, n5, c5, rfl, hv5, hb5⟩; have X5 := Lib.hid (X2.out.below hb5); have Y5 := Lib.hid (Y2.out.below hb5); have Z5 := Lib.hid (Z2.out.below hb5); have HB5 := Lib.hid (HB2.out.trans (hb5.mono HB2.out.size)); have H3 := Lib.hid (rcapped_int hv5 (fit_add NX.out (big_neg NY.out))); clear hv5 hb5)
      | (go_at_call 52; (with_reducible refine H3.out.mono ?_); rintro e w3 ⟨s3, A3, n3, c3, er, rfl, hc3, hb3⟩; have X3 := Lib.hid (X5.out.below hb3); have Y3 := Lib.hid (Y5.out.below hb3); have Z3 := Lib.hid (Z5.out.below hb3); obtain ⟨q0, q1, z0, z1, zl⟩ := Z3.out.facts; have HB3 := Lib.hid (HB5.out.trans (hb3.mono HB5.out.size)); have HC3 := Lib.hid hc3; clear hb3 hc3))
  all_goals
    obtain ⟨W4, hW4, Z, hb4, -, hv4, -, -⟩ := stored_world Z3.out HB3.out (by omega) s3 A3 n3 c3
    rw [hW4]
    obtain ⟨c0, c1, -, -, -⟩ := Z.facts
    have hret : RetC w (x - y) (.returned (.tuple #[.agg #[.bool s3, .slice A3 n3 c3], .int .i64 er])) W4 :=
      ⟨s3, A3, n3, c3, er, rfl, by
        have h := HC3.out
        rw [← Int.sub_eq_add_neg] at h
        exact h.imp (fun h => ⟨h.1, h.2.1, hv4 _ _ h.2.2⟩) (fun h => ⟨h.1, h.2.1, hv4 _ _ h.2.2⟩), hb4⟩
    have HRET := Lib.hid hret
    clear q0 q1 z0 z1 zl hW4 hv4 hret
    go_wp2
    refine bodyPost_ret (v := .tuple #[.agg #[.bool s3, .slice A3 n3 c3], .int .i64 er]) (by simp [results, Tryd.results25, go_sem, c0, c1]) rfl ?_
    exact HRET.out
theorem rsub2_int {va vb : Value} {x y : Int} {w : World} (ha : IntR w va x) (hb : IntR w vb y) (hx : ¬ BigI x) (hy : ¬ BigI y) : Calls Tryd.prog 25 #[va, vb] w (RetC w (x - y)) := by
  obtain ⟨A, n, ca, rfl⟩ := ha.bx
  obtain ⟨B, m, cb, rfl⟩ := hb.bx
  exact rsub2_any _ _ A B n ca m cb w x y ha hb hx hy

set_option maxRecDepth 100000 in
set_option maxHeartbeats 1000000 in
theorem rcmp2_any (s t : Bool) (A B : Option Addr) (n ca m cb : Nat) (w : World) (x y : Int) (ha : IntR w (.agg #[.bool s, .slice A n ca]) x) (hb : IntR w (.agg #[.bool t, .slice B m cb]) y) (hx : ¬ BigI x) (hy : ¬ BigI y) :
    Calls Tryd.prog 29 #[.agg #[.bool s, .slice A n ca], .agg #[.bool t, .slice B m cb]] w fun e w' => e = .returned (.int .i64 (cmpI x y)) ∧ Below w.heap.size w w' := by
  obtain ⟨hb0, x0, y0⟩ := newp2 w s t A B n ca m cb
  have HB1 := Lib.hid hb0.drew
  have X1 := Lib.hid x0.drew
  have Y1 := Lib.hid y0.drew
  have VX1 := Lib.hid (ha.keep hb0).drew
  have H1 := Lib.hid (rneg_int (hb.keep hb0).drew (fit_of hy))
  obtain ⟨hbn, xn, yn, dn⟩ := new3 w s t A B n ca m cb
  have H1p := Lib.hid (rneg_int (hb.keep hbn).drew (fit_of hy))
  have HBN := Lib.hid hbn.drew
  have XN := Lib.hid xn.drew
  have YN := Lib.hid yn.drew
  have DN := Lib.hid dn.drew
  have VXN := Lib.hid (ha.keep hbn).drew
  have NX := Lib.hid hx
  have NY := Lib.hid hy
  clear hb0 x0 y0 ha hb hx hy hbn xn yn dn
  go_enter Tryd.func29, Tryd.ntmps29
  go_wp2
  go_region_held3 (fun W => W.cell? ⟨w.heap.size, 0, none⟩ = some (.bool s) ∧ W.cell? ⟨w.heap.size, 1, none⟩ = some (.slice A n ca) ∧ W.cell? ⟨w.heap.size + 1, 0, none⟩ = some (.bool t) ∧ W.cell? ⟨w.heap.size + 1, 1, none⟩ = some (.slice B m cb))
    ((refine ⟨Bx.c0 (A := A) (n := n) (c := ca) ?_, Bx.c1 (b := s) ?_, Bx.c0 (A := B) (n := m) (c := cb) ?_, Bx.c1 (b := t) ?_⟩ <;> (repeat' (first | (with_reducible exact Hid.out (by assumption)) | (with_reducible refine Bx.alloc ?_ _) | (with_reducible refine Bx.set ?_ _ (by simp <;> omega))))))
    (first
      | (go_at_call 31; (with_reducible refine H1.out.mono ?_); rintro e w2 ⟨s2, A2, n2, c2, rfl, hv2, hb2⟩; have X2 := Lib.hid (X1.out.below hb2); have Y2 := Lib.hid (Y1.out.below hb2); have ly2 := Y2.out.lt; have HB2 := Lib.hid (HB1.out.trans (hb2.mono HB1.out.size)); have H2 := Lib.hid (rplus_int (VX1.out.keep hb2) hv2 (fit_of NX.out) (fit_neg (fit_of NY.out))); have H2p := Lib.hid (rplus_int ((VX1.out.keep hb2).alloc (.cells #[.bool false, .slice none 0 0] 24)) (hv2.alloc (.cells #[.bool false, .slice none 0 0] 24)) (fit_of NX.out) (fit_neg (fit_of NY.out))); clear hv2 hb2)
      | (go_at_call 31; (with_reducible refine H1p.out.mono ?_); rintro e w2 ⟨s2, A2, n2, c2, rfl, hv2, hb2⟩; have X2 := Lib.hid (XN.out.below hb2); have Y2 := Lib.hid (YN.out.below hb2); have D2 := Lib.hid (DN.out.below hb2); have HB2 := Lib.hid (HBN.out.trans (hb2.mono HBN.out.size)); have H2q := Lib.hid (rplus_int (VXN.out.keep hb2) hv2 (fit_of NX.out) (fit_neg (fit_of NY.out))); clear hv2 hb2)
      | (go_at_call 53; (with_reducible refine H2.out.mono ?_); rintro e w5 ⟨s5, A5, n5, c5, rfl, hv5, hb5⟩; have X5 := Lib.hid (X2.out.below hb5); have Y5 := Lib.hid (Y2.out.below hb5); have HB5 := Lib.hid (HB2.out.trans (hb5.mono HB2.out.size)); have HV5 := Lib.hid hv5; clear hv5 hb5)
      | (go_at_call 53; (with_reducible refine H2p.out.mono ?_); rintro e w5 ⟨s5, A5, n5, c5, rfl, hv5, hb5⟩; have X5 := Lib.hid ((X2.out.alloc _).below hb5); have Y5 := Lib.hid ((Y2.out.alloc _).below hb5); have hbn := HB2.out.alloc HB2.out.size (.cells #[.bool false, .slice none 0 0] 24); have D5 := Lib.hid ((Bx.new w2 false none 0 0).below hb5); have HB5 := Lib.hid (hbn.trans (hb5.mono hbn.size)); have HG := Lib.hid HB2.out.size; have HV5 := Lib.hid hv5; obtain ⟨q0, q1, z0, z1, zl⟩ := D5.out.facts; clear hv5 hb5 hbn)
      | (go_at_call 53; (with_reducible refine H2q.out.mono ?_); rintro e w5 ⟨s5, A5, n5, c5, rfl, hv5, hb5⟩; have X5 := Lib.hid (X2.out.below hb5); have Y5 := Lib.hid (Y2.out.below hb5); have D5 := Lib.hid (D2.out.below hb5); have HB5 := Lib.hid (HB2.out.trans (hb5.mono HB2.out.size)); have HV5 := Lib.hid hv5; obtain ⟨q0, q1, z0, z1, zl⟩ := D5.out.facts; clear hv5 hb5))
  all_goals
    first
    | (obtain ⟨W6, hW6, Z6, hb6, -, -, -, -⟩ := stored_world D5.out HB5.out (by first | omega | exact HG.out) s5 A5 n5 c5
       rw [hW6]
       have HE := Lib.hid hb6
       clear q0 q1 z0 z1 zl hW6
       obtain ⟨q0, q1, z0, z1, zl⟩ := Z6.facts
       clear Z6 hb6)
    | have HE := Lib.hid (HB5.out.alloc HB5.out.size (.cells #[.bool s5, .slice A5 n5 c5] 24))
    have hp := HV5.out.parts
    have hn := hp.2.2.1 (fit_add NX.out (big_neg NY.out))
    have HN := Lib.hid hp.2.1
    have HS := Lib.hid hp.1
    clear hp
    rcases Int.lt_trichotomy x y with h | h | h
    · have h0 : ((n5 : Int) == 0) = false := by
        have := HN.out
        simp
        omega
      have hs : s5 = true := by rw [HS.out]; exact decide_eq_true (by omega)
      have HH := Lib.hid h
      clear h
      subst hs
      go_wp2
      go_ret
      exact ⟨by first | (rw [cmpI_lt HH.out]; done) | (rw [cmpI_lt HH.out]; rfl), HE.out⟩
    · have h0 : ((n5 : Int) == 0) = true := by
        have := HN.out
        simp
        omega
      have HH := Lib.hid h
      clear h
      go_wp2
      go_ret
      exact ⟨by first | (rw [cmpI_eq HH.out]; done) | (rw [cmpI_eq HH.out]; rfl), HE.out⟩
    · have h0 : ((n5 : Int) == 0) = false := by
        have := HN.out
        simp
        omega
      have hs : s5 = false := by rw [HS.out]; exact decide_eq_false (by omega)
      have HH := Lib.hid h
      clear h
      subst hs
      go_wp2
      go_ret
      exact ⟨by first | (rw [cmpI_gt HH.out]; done) | (rw [cmpI_gt HH.out]; rfl), HE.out⟩
theorem rcmp2_int {va vb : Value} {x y : Int} {w : World} (ha : IntR w va x) (hb : IntR w vb y) (hx : ¬ BigI x) (hy : ¬ BigI y) : Calls Tryd.prog 29 #[va, vb] w fun e w' => e = .returned (.int .i64 (cmpI x y)) ∧ Below w.heap.size w w' := by
  obtain ⟨A, n, ca, rfl⟩ := ha.bx
  obtain ⟨B, m, cb, rfl⟩ := hb.bx
  exact rcmp2_any _ _ A B n ca m cb w x y ha hb hx hy

end LM
end Go.Proofs.YtfckjapedjjhpaaDoor
