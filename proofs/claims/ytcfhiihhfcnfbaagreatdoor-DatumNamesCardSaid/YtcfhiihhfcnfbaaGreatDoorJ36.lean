/- Walks: the document's Of once more, with what is known of the room. -/
import Derived.Test.YtcfhiihhfcnfbaaGreatDoorJ21
import Derived.WalkMore
import Derived.ScopeJumps
import Derived.Deep.LoopGhost
import Derived.Deep.QuietTactic
import Derived.BigQuiet
import Derived.Test.YtcfhiihhfcnfbaaGreatDoorJ19
import Derived.Test.YtcfhiihhfcnfbaaGreatDoorJ10
import Derived.LoopTactic
namespace Go.Proofs.YtcfhiihhfcnfbaaGreatDoor
open Go Go.RowKit
namespace LM
set_option linter.unusedVariables false
attribute [local go_sem] run_store_flt

set_option maxRecDepth 100000 in
set_option maxHeartbeats 4000000 in
theorem tadd_if (f0 fa fb r : Nat) (s : Bool) (A : Option Addr) (n c : Nat) (s' : Bool) (A' : Option Addr) (n' c' : Nat) (w : World)
    (hO : ∀ W, Below w.heap.size w W → Calls Tryz.prog 45 #[.agg #[.bool s, .slice A n c]] W fun e w' => e = .returned (.float .f64 fa) ∧ Below W.heap.size W w')
    (hr : floatBits .add .f64 fa fb = some r) :
    Calls Tryz.prog 58 #[numA false f0 s A n c, numA true fb s' A' n' c'] w fun e w' =>
      e = .returned (.tuple #[numA true r false none 0 0, .int .i64 0]) ∧ Below w.heap.size w w' := by
  have C1 := Lib.hid fun W (h : Below w.heap.size w W) => tof_two f0 0 fa fb r s A n c s' A' n' c' W (fun W' h' => hO W' (bel_trans (B := w.heap.size) h h')) hr
  clear hO hr
  go_enter Tryz.func58, Tryz.ntmps58
  go_wp2_with (fail)
  generalize hW0 : (((w.alloc (numO false f0 s A n c)).alloc (numO true fb s' A' n' c')).alloc (numO false 0 false none 0 0)) = W0
  have hb0 : Below w.heap.size w W0 := by
    rw [← hW0]
    exact (((Below.refl _ w).alloc (Nat.le_refl _) _).alloc (by simp) _).alloc (by simp; omega) _
  have hy0 : Nx W0 (w.heap.size + 1 + 1) false 0 false none 0 0 := by
    rw [← hW0]
    have h := Nx.new ((w.alloc (numO false f0 s A n c)).alloc (numO true fb s' A' n' c')) false 0 false none 0 0
    simp only [World.size_alloc] at h
    exact h
  have Y0 := Lib.hid hy0
  have HB0 := Lib.hid hb0
  clear hW0 hb0 hy0
  refine (C1.out _ HB0.out).mono ?_
  rintro e w1 ⟨rfl, hb1⟩
  have Y1 := Y0.out.below hb1
  obtain ⟨W, hW, ZR, hbW, hvW, -⟩ := stored_num Y1 (bel_trans (B := w.heap.size) HB0.out hb1) (by omega) true r false none 0 0
  obtain ⟨z0, z1, z2, z3, -, -, -, -, zl⟩ := ZR.facts
  obtain ⟨y0, y1, y2, y3, y4, y5, y6, y7, yl⟩ := Y1.facts
  have HBW := Lib.hid hbW
  clear hbW hvW ZR Y1 hb1
  go_wp2_with (fail)
  first | rw [hW] | skip
  refine bodyPost_ret (v := .tuple #[numA true r false none 0 0, .int .i64 0]) (by simp [results, Tryz.results58, go_sem, z0, z1, z2, z3]) rfl ?_
  exact ⟨rfl, HBW.out⟩

set_option maxRecDepth 100000 in
set_option maxHeartbeats 4000000 in
/-- by nothing -/
theorem tdiv_zero (fl : Bool) (f f0 : Nat) (s : Bool) (A : Option Addr) (n c : Nat) (s' : Bool) (A' : Option Addr) (c' : Nat) (w : World) :
    Calls Tryz.prog 61 #[numA fl f s A n c, numA false f0 s' A' 0 c'] w fun e w' =>
      e = .returned (.tuple #[numA false 0 false none 0 0, .int .i64 12]) ∧ Below w.heap.size w w' := by
  have N1 := Lib.hid fun W => tnothing_any s' A' 0 c' W
  go_enter Tryz.func61, Tryz.ntmps61
  go_wp2_with (fail)
  generalize hW0 : (((w.alloc (numO fl f s A n c)).alloc (numO false f0 s' A' 0 c')).alloc (numO false 0 false none 0 0)) = W0
  have hb0 : Below w.heap.size w W0 := by
    rw [← hW0]
    exact (((Below.refl _ w).alloc (Nat.le_refl _) _).alloc (by simp) _).alloc (by simp; omega) _
  have hy0 : Nx W0 (w.heap.size + 1 + 1) false 0 false none 0 0 := by
    rw [← hW0]
    have h := Nx.new ((w.alloc (numO fl f s A n c)).alloc (numO false f0 s' A' 0 c')) false 0 false none 0 0
    simp only [World.size_alloc] at h
    exact h
  have Y0 := Lib.hid hy0
  have HB0 := Lib.hid hb0
  clear hW0 hb0 hy0
  refine (N1.out _).mono ?_
  rintro e w1 ⟨rfl, hb1⟩
  have Y1 := Y0.out.below hb1
  obtain ⟨W, hW, ZR, hbW, hvW, -⟩ := stored_num Y1 (bel_trans (B := w.heap.size) HB0.out hb1) (by omega) false 0 false none 0 0
  obtain ⟨z0, z1, z2, z3, -, -, -, -, zl⟩ := ZR.facts
  obtain ⟨y0, y1, y2, y3, y4, y5, y6, y7, yl⟩ := Y1.facts
  have HBW := Lib.hid hbW
  clear hbW hvW ZR Y1 hb1
  go_wp2_with (fail)
  first | rw [hW] | skip
  refine bodyPost_ret (v := .tuple #[numA false 0 false none 0 0, .int .i64 12]) (by simp [results, Tryz.results61, go_sem, z0, z1, z2, z3]) rfl ?_
  exact ⟨rfl, HBW.out⟩

/-- two numbers' blocks, and a result's -/
theorem three_num (w : World) (fl : Bool) (f : Nat) (s : Bool) (A : Option Addr) (n c : Nat) (fl' : Bool) (f' : Nat) (s' : Bool) (A' : Option Addr) (n' c' : Nat) :
    ∃ W, ((w.alloc (numO fl f s A n c)).alloc (numO fl' f' s' A' n' c')).alloc (numO false 0 false none 0 0) = W ∧ Below w.heap.size w W ∧
      Obs W [(w.heap.size + 1 + 1, numO false 0 false none 0 0), (w.heap.size + 1, numO fl' f' s' A' n' c'), (w.heap.size, numO fl f s A n c)] := by
  refine ⟨_, rfl, (((Below.refl _ w).alloc (Nat.le_refl _) _).alloc (by simp) _).alloc (by simp; omega) _, ?_⟩
  have h := ((Obs.nil.new (w := w) (numO fl f s A n c)).new (numO fl' f' s' A' n' c')).new (numO false 0 false none 0 0)
  simp only [World.size_alloc] at h
  exact h
theorem Obs.nx0 {w : World} {g : Nat} {fl : Bool} {f : Nat} {s : Bool} {A : Option Addr} {n c : Nat} {L : List (Nat × Obj)} (h : Obs w ((g, numO fl f s A n c) :: L)) : Nx w g fl f s A n c := h.hd

set_option maxRecDepth 100000 in
set_option maxHeartbeats 4000000 in
/-- of two exact ones, where nothing is left -/
theorem tdiv_whole (f f0 : Nat) (s : Bool) (A : Option Addr) (n c : Nat) (s' : Bool) (A' : Option Addr) (n' c' : Nat) (x y : Int) (w : World) (hx : IntV w (.agg #[.bool s, .slice A n c]) x) (hy : IntV w (.agg #[.bool s', .slice A' n' c']) y)
    (nx : ¬ BigI x) (ny : ¬ BigI y) (hy0 : y ≠ 0) (hr : remI x y = 0) :
    Calls Tryz.prog 61 #[numA false f s A n c, numA false f0 s' A' n' c'] w fun e w' =>
      ∃ s1 A1 n1 c1, e = .returned (.tuple #[numA false 0 s1 A1 n1 c1, .int .i64 0]) ∧ IntV w' (.agg #[.bool s1, .slice A1 n1 c1]) (quoI x y) ∧ Below w.heap.size w w' := by
  have N1 := Lib.hid tnothing_any
  have W1 := Lib.hid twhole_any
  have hn0 : n' ≠ 0 := fun h => hy0 (hy.parts.2.1.1 h)
  have d1 : decide (n' = 0) = false := decide_eq_false hn0
  have HX := Lib.hid hx
  have HY := Lib.hid hy
  have NX := Lib.hid nx
  have NY := Lib.hid ny
  have HY0 := Lib.hid hy0
  have HR := Lib.hid hr
  obtain ⟨W0, hW0, hb0, hO⟩ := three_num w false f s A n c false f0 s' A' n' c'
  have O0 := Lib.hid hO
  have HB0 := Lib.hid hb0
  have HW0 := Lib.hid hW0
  clear hx hy nx ny hy0 hr hO hb0 hW0
  go_enter Tryz.func61, Tryz.ntmps61
  go_wp2_with (fail)
  rw [HW0.out]
  refine (N1.out _ _ _ _ _).mono ?_
  rw [d1]
  rintro e w1 ⟨rfl, hb1⟩
  have O1 := Lib.hid (O0.out.below hb1)
  have HB1 := Lib.hid (bel_trans (B := w.heap.size) HB0.out hb1)
  clear hb1
  obtain ⟨p0, p1, p2, p3, -, -, -, -, pl⟩ := O1.out.tl.nx0.facts
  obtain ⟨q0, q1, q2, q3, -, -, -, -, ql⟩ := O1.out.tl.tl.nx0.facts
  have Q1 := Lib.hid (equo_int (HX.out.keep HB1.out) (HY.out.keep HB1.out) NX.out NY.out)
  go_wp2_with (fail)
  refine Q1.out.mono ?_
  intro e w2 hq
  obtain ⟨s2, A2, n2, c2, s3, A3, n3, c3, er, zq, zr, rfl, hvq, hvr, ho, hb2⟩ := hq.out
  obtain ⟨rfl, rfl, rfl⟩ : er = 0 ∧ zq = quoI x y ∧ zr = remI x y := by
    rcases ho with ⟨h, _⟩ | ⟨_, h1, h2, h3⟩
    · exact absurd h HY0.out
    · exact ⟨h1, h2, h3⟩
  have hn3 : n3 = 0 := hvr.parts.2.1.2 HR.out
  have hbk := bel_trans (B := w.heap.size) HB1.out hb2
  have X3 := Lib.hid ((Bx.new w2 s2 A2 n2 c2).alloc (.cells #[.bool s3, .slice A3 n3 c3] 36))
  have O3 := Lib.hid (((O1.out.below hb2).alloc (.cells #[.bool s2, .slice A2 n2 c2] 36)).alloc (.cells #[.bool s3, .slice A3 n3 c3] 36))
  have V3 := Lib.hid ((hvq.alloc (.cells #[.bool s2, .slice A2 n2 c2] 36)).alloc (.cells #[.bool s3, .slice A3 n3 c3] 36))
  have HB3 := Lib.hid ((hbk.alloc hbk.size (.cells #[.bool s2, .slice A2 n2 c2] 36)).alloc (by have := hbk.size; simp; omega) (.cells #[.bool s3, .slice A3 n3 c3] 36))
  have d3 : decide (n3 = 0) = true := decide_eq_true hn3
  clear hq ho hvq hvr hb2 hbk p0 p1 p2 p3 pl q0 q1 q2 q3 ql hn3
  go_wp2_with (fail)
  refine (N1.out _ _ _ _ _).mono ?_
  rw [d3]
  rintro e w4 ⟨rfl, hb4⟩
  have X4 := Lib.hid (X3.out.below hb4)
  have O4 := Lib.hid (O3.out.below hb4)
  have V4 := Lib.hid (V3.out.keep hb4)
  have HB4 := Lib.hid (bel_trans (B := w.heap.size) HB3.out hb4)
  clear hb4
  obtain ⟨q0, q1, -, -, ql⟩ := X4.out.facts
  go_wp2_with (fail)
  refine (W1.out _ _ _ _ _).mono ?_
  rintro e w5 ⟨rfl, hb5, hv5⟩
  have Y5 := (O4.out.below hb5).nx0
  obtain ⟨W, hW, ZR, hbW, hvW, -⟩ := stored_num Y5 (bel_trans (B := w.heap.size) HB4.out hb5) (by omega) false 0 s2 A2 n2 c2
  obtain ⟨z0, z1, z2, z3, -, -, -, -, zl⟩ := ZR.facts
  obtain ⟨y0, y1, y2, y3, y4, y5, y6, y7, yl⟩ := Y5.facts
  have HBW := Lib.hid hbW
  have HVW := Lib.hid (hvW _ _ (hv5 _ _ V4.out))
  clear hbW hvW ZR Y5 hb5 hv5 q0 q1 ql
  go_wp2_with (fail)
  first | rw [hW] | skip
  refine bodyPost_ret (v := .tuple #[numA false 0 s2 A2 n2 c2, .int .i64 0]) (by simp [results, Tryz.results61, go_sem, z0, z1, z2, z3]) rfl ?_
  exact ⟨s2, A2, n2, c2, rfl, HVW.out, HBW.out⟩

set_option maxRecDepth 100000 in
set_option maxHeartbeats 4000000 in
/-- of two exact ones, where something is left -/
theorem tdiv_flo (f f0 fa fb r : Nat) (s : Bool) (A : Option Addr) (n c : Nat) (s' : Bool) (A' : Option Addr) (n' c' : Nat) (x y : Int) (w : World) (hx : IntV w (.agg #[.bool s, .slice A n c]) x) (hy : IntV w (.agg #[.bool s', .slice A' n' c']) y)
    (nx : ¬ BigI x) (ny : ¬ BigI y) (hy0 : y ≠ 0) (hr : remI x y ≠ 0)
    (hOa : ∀ W, Below w.heap.size w W → Calls Tryz.prog 45 #[.agg #[.bool s, .slice A n c]] W fun e w' => e = .returned (.float .f64 fa) ∧ Below W.heap.size W w')
    (hOb : ∀ W, Below w.heap.size w W → Calls Tryz.prog 45 #[.agg #[.bool s', .slice A' n' c']] W fun e w' => e = .returned (.float .f64 fb) ∧ Below W.heap.size W w')
    (hop : floatBits .quo .f64 fa fb = some r) :
    Calls Tryz.prog 61 #[numA false f s A n c, numA false f0 s' A' n' c'] w fun e w' =>
      e = .returned (.tuple #[numA true r false none 0 0, .int .i64 0]) ∧ Below w.heap.size w w' := by
  have N1 := Lib.hid tnothing_any
  have F1 := Lib.hid tflo_any
  have FA := Lib.hid fun W (h : Below w.heap.size w W) => tfloating_i fa f s A n c W fun W' h' => hOa W' (bel_trans (B := w.heap.size) h h')
  have FB := Lib.hid fun W (h : Below w.heap.size w W) => tfloating_i fb f0 s' A' n' c' W fun W' h' => hOb W' (bel_trans (B := w.heap.size) h h')
  have hdv : ∀ t W, (binOp .quo t (.float .f64 fa) (.float .f64 fb)).run Tryz.prog W = .ok (.float .f64 r) W := fun t W => run_float_arith W .quo t .f64 _ _ _ hop
  have hn0 : n' ≠ 0 := fun h => hy0 (hy.parts.2.1.1 h)
  have d1 : decide (n' = 0) = false := decide_eq_false hn0
  have HX := Lib.hid hx
  have HY := Lib.hid hy
  have NX := Lib.hid nx
  have NY := Lib.hid ny
  have HY0 := Lib.hid hy0
  have HR := Lib.hid hr
  obtain ⟨W0, hW0, hb0, hO⟩ := three_num w false f s A n c false f0 s' A' n' c'
  have O0 := Lib.hid hO
  have HB0 := Lib.hid hb0
  have HW0 := Lib.hid hW0
  clear hx hy nx ny hy0 hr hO hb0 hW0 hOa hOb hop
  go_enter Tryz.func61, Tryz.ntmps61
  go_wp2_with (fail)
  rw [HW0.out]
  refine (N1.out _ _ _ _ _).mono ?_
  rw [d1]
  rintro e w1 ⟨rfl, hb1⟩
  have O1 := Lib.hid (O0.out.below hb1)
  have HB1 := Lib.hid (bel_trans (B := w.heap.size) HB0.out hb1)
  clear hb1
  obtain ⟨p0, p1, p2, p3, -, -, -, -, pl⟩ := O1.out.tl.nx0.facts
  obtain ⟨q0, q1, q2, q3, -, -, -, -, ql⟩ := O1.out.tl.tl.nx0.facts
  have Q1 := Lib.hid (equo_int (HX.out.keep HB1.out) (HY.out.keep HB1.out) NX.out NY.out)
  go_wp2_with (fail)
  refine Q1.out.mono ?_
  intro e w2 hq
  obtain ⟨s2, A2, n2, c2, s3, A3, n3, c3, er, zq, zr, rfl, hvq, hvr, ho, hb2⟩ := hq.out
  obtain ⟨rfl, rfl, rfl⟩ : er = 0 ∧ zq = quoI x y ∧ zr = remI x y := by
    rcases ho with ⟨h, _⟩ | ⟨_, h1, h2, h3⟩
    · exact absurd h HY0.out
    · exact ⟨h1, h2, h3⟩
  have hn3 : n3 ≠ 0 := fun h => HR.out (hvr.parts.2.1.1 h)
  have hbk := bel_trans (B := w.heap.size) HB1.out hb2
  have X3 := Lib.hid ((Bx.new w2 s2 A2 n2 c2).alloc (.cells #[.bool s3, .slice A3 n3 c3] 36))
  have O3 := Lib.hid (((O1.out.below hb2).alloc (.cells #[.bool s2, .slice A2 n2 c2] 36)).alloc (.cells #[.bool s3, .slice A3 n3 c3] 36))
  have V3 := Lib.hid ((hvq.alloc (.cells #[.bool s2, .slice A2 n2 c2] 36)).alloc (.cells #[.bool s3, .slice A3 n3 c3] 36))
  have HB3 := Lib.hid ((hbk.alloc hbk.size (.cells #[.bool s2, .slice A2 n2 c2] 36)).alloc (by have := hbk.size; simp; omega) (.cells #[.bool s3, .slice A3 n3 c3] 36))
  have d3 : decide (n3 = 0) = false := decide_eq_false hn3
  clear hq ho hvq hvr hb2 hbk p0 p1 p2 p3 pl q0 q1 q2 q3 ql hn3
  go_wp2_with (fail)
  refine (N1.out _ _ _ _ _).mono ?_
  rw [d3]
  rintro e w4 ⟨rfl, hb4⟩
  have X4 := Lib.hid (X3.out.below hb4)
  have O4 := Lib.hid (O3.out.below hb4)
  have V4 := Lib.hid (V3.out.keep hb4)
  have HB4 := Lib.hid (bel_trans (B := w.heap.size) HB3.out hb4)
  clear hb4
  have KS : Hid (∀ W, Obs W [(w.heap.size + 1, numO false f0 s' A' n' c'), (w.heap.size, numO false f s A n c)] →
      W.cell? ⟨w.heap.size, 0, none⟩ = some (.bool false) ∧ W.cell? ⟨w.heap.size, 1, none⟩ = some (.float .f64 f) ∧ W.cell? ⟨w.heap.size, 2, none⟩ = some (.bool s) ∧ W.cell? ⟨w.heap.size, 3, none⟩ = some (.slice A n c) ∧
      W.cell? ⟨w.heap.size + 1, 0, none⟩ = some (.bool false) ∧ W.cell? ⟨w.heap.size + 1, 1, none⟩ = some (.float .f64 f0) ∧ W.cell? ⟨w.heap.size + 1, 2, none⟩ = some (.bool s') ∧ W.cell? ⟨w.heap.size + 1, 3, none⟩ = some (.slice A' n' c')) := Lib.hid fun W h => by
    have h1 := ob_cell h.hd
    have h2 := ob_cell h.tl.hd
    exact ⟨h2 0, h2 1, h2 2, h2 3, h1 0, h1 1, h1 2, h1 3⟩
  have hne : ∀ q ∈ ([(w.heap.size + 1, numO false f0 s' A' n' c'), (w.heap.size, numO false f s A n c)] : List (Nat × Obj)), q.1 ≠ w.heap.size + 1 + 1 := by
    intro q hq
    simp only [List.mem_cons, List.not_mem_nil, or_false] at hq
    rcases hq with rfl | rfl <;> simp <;> omega
  have HNE := Lib.hid hne
  have XS5 := Lib.hid O4.out.tl.drew
  have Y5 : Hid (Nx w4.drew (w.heap.size + 1 + 1) false 0 false none 0 0) := Lib.hid O4.out.nx0
  have HB5 := Lib.hid HB4.out.drew
  have D1 := Lib.hid (FA.out _ HB5.out)
  clear hne
  go_wp2_with (fail)
  go_region_held3 (fun W => W.cell? ⟨w.heap.size, 0, none⟩ = some (.bool false) ∧ W.cell? ⟨w.heap.size, 1, none⟩ = some (.float .f64 f) ∧ W.cell? ⟨w.heap.size, 2, none⟩ = some (.bool s) ∧ W.cell? ⟨w.heap.size, 3, none⟩ = some (.slice A n c) ∧
      W.cell? ⟨w.heap.size + 1, 0, none⟩ = some (.bool false) ∧ W.cell? ⟨w.heap.size + 1, 1, none⟩ = some (.float .f64 f0) ∧ W.cell? ⟨w.heap.size + 1, 2, none⟩ = some (.bool s') ∧ W.cell? ⟨w.heap.size + 1, 3, none⟩ = some (.slice A' n' c'))
    ((exact KS.out _ (Hid.out (by assumption))))
    (first
      | (go_at_call 115; (with_reducible refine D1.out.mono ?_); rintro e v1 ⟨rfl, hbz⟩; have XS6 := Lib.hid (XS5.out.below hbz); have Y6 := Lib.hid (Y5.out.below hbz); have HB6 := Lib.hid (bel_trans (B := w.heap.size) HB5.out hbz); have D2 := Lib.hid (FB.out _ HB6.out); clear hbz)
      | (go_at_call 115; (with_reducible refine D2.out.mono ?_); rintro e v2 ⟨rfl, hbz⟩; have XS7 := Lib.hid (XS6.out.below hbz); have Y7 := Lib.hid (Y6.out.below hbz); have HB7 := Lib.hid (bel_trans (B := w.heap.size) HB6.out hbz); clear hbz)
      | (go_at_call 60; (with_reducible refine (F1.out _ _).mono ?_); rintro e v4 ⟨rfl, hbz⟩; have XS8 := Lib.hid (XS7.out.below hbz); have Y8 := Lib.hid (Y7.out.below hbz); have HB8 := Lib.hid (bel_trans (B := w.heap.size) HB7.out hbz); have XS9 := Lib.hid (XS8.out.set4 HNE.out (.bool true) (.float .f64 r) (.bool false) (.slice none 0 0)); obtain ⟨y0, y1, y2, y3, y4, y5, y6, y7, yl⟩ := Y8.out.facts; clear hbz))
  all_goals
    obtain ⟨W, hW, ZR, hbW, hvW, -⟩ := stored_num Y8.out HB8.out (by omega) true r false none 0 0
    obtain ⟨z0, z1, z2, z3, -, -, -, -, zl⟩ := ZR.facts
    have HBW := Lib.hid hbW
    clear hbW hvW ZR
    go_wp2
    first | rw [hW] | skip
    refine bodyPost_ret (v := .tuple #[numA true r false none 0 0, .int .i64 0]) (by simp [results, Tryz.results61, go_sem, z0, z1, z2, z3]) rfl ?_
    exact ⟨rfl, HBW.out⟩

end LM
end Go.Proofs.YtcfhiihhfcnfbaaGreatDoor

namespace Go.Proofs.YtcfhiihhfcnfbaaGreatDoor
open Go.RowKit
namespace LM
set_option linter.unusedVariables false

/-- a scope that is jumped back into, each time with a lesser number -/
theorem scope_ghost {P : Program} {Q : Exit → Act → World → Prop} {a : Act} {w : World} {c rest : Code} (l : Nat) (J : Nat → Act → World → Prop) (hf : findLabel c l = some rest)
    (first : c.wp P (Exit.jump l (fun a' w' => ∃ n, J n a' w') Q) a w)
    (pass : ∀ n a w, J n a w → rest.wp P (Exit.jump l (fun a' w' => ∃ m, m < n ∧ J m a' w') Q) a w) : (Code.scope c).wp P Q a w := by
  refine wp_scope_jumps l (fun a w => ∃ n, J n a w) (fun a w => leastOf fun n => J n a w) hf first ?_
  intro a w hJ
  obtain ⟨h0, -⟩ := leastOf_spec hJ
  refine wp_mono (pass _ a w h0) ?_
  intro e a' w' he
  cases e with
  | goto l' =>
    obtain ⟨rfl, m, hm, hj⟩ := he
    exact ⟨rfl, ⟨m, hj⟩, Nat.lt_of_le_of_lt ((leastOf_spec ⟨m, hj⟩).2 m hj) hm⟩
  | normal => exact he
  | exit id => exact he
  | ret => exact he
  | panic ch => exact he
  | outgrown => exact he

theorem retI_mk {w w' : World} {s : Bool} {A : Option Addr} {n c : Nat} {z : Int} (h : IntV w' (.agg #[.bool s, .slice A n c]) z) (hb : Below w.heap.size w w') : RetI w z (.returned (.agg #[.bool s, .slice A n c])) w' := by
  have hs := h.parts.1
  subst hs
  exact ⟨A, n, c, rfl, h, hb⟩
/-- where the rounds of Gcd stand -/
def Gst (w w' : World) (A1 A2 : Option Addr) (c1 c2 : Nat) (r1 r2 : List Nat) (g : Nat) : Prop :=
  Rd w' A1 r1 ∧ Rd w' A2 r2 ∧ Can r1 ∧ Can r2 ∧ (r1.length ≤ c1 ∧ c1 ≤ 9223372036854775807 ∧ r1.length ≤ 64) ∧ (r2.length ≤ c2 ∧ c2 ≤ 9223372036854775807 ∧ r2.length ≤ 64) ∧ Nat.gcd (val r1) (val r2) = g ∧ Bx w' (w.heap.size + 1 + 1) false none 0 0 ∧ Below w.heap.size w w'

/-- where the rounds of the document's Gcd stand -/
def GstR (w w' : World) (A1 A2 : Option Addr) (r1 r2 : List Nat) (g : Nat) : Prop :=
  Rd w' A1 r1 ∧ Rd w' A2 r2 ∧ Can r1 ∧ Can r2 ∧ r1.length ≤ 64 ∧ r2.length ≤ 64 ∧ Nat.gcd (val r1) (val r2) = g ∧ Bx w' (w.heap.size + 1 + 1) false none 0 0 ∧ Below w.heap.size w w'

end LM
end Go.Proofs.YtcfhiihhfcnfbaaGreatDoor

namespace Go.Proofs.YtcfhiihhfcnfbaaGreatDoor
open Go.RowKit
namespace LM
set_option linter.unusedVariables false

theorem trim_last {xs : List Nat} {j : Nat} (hj : xs.length = j + 1) : (trim xs = xs) ↔ xs[j]?.getD 0 ≠ 0 := by
  constructor
  · intro h h0
    have h1 := trim_take_zero xs j (by omega) h0
    rw [← hj, List.take_length] at h1
    have h2 := trim_length_le (xs.take j)
    have h3 := congrArg List.length h
    rw [h1] at h3
    rw [List.length_take] at h2
    omega
  · intro h
    have h1 := trim_take_pos xs j (by omega) h
    rw [← hj, List.take_length] at h1
    exact h1

set_option maxRecDepth 100000 in
set_option maxHeartbeats 2000000 in
theorem eright_nil_false (A : Option Addr) (c : Nat) (w : World) :
    Calls Tryz.prog 200 #[.agg #[.bool false, .slice A 0 c]] w fun e w' => e = .returned (.bool true) ∧ Below w.heap.size w w' := by
  have HB := Lib.hid (show Below w.heap.size w (w.alloc (.cells #[.bool false, .slice A 0 c] 36)) from (Below.refl _ w).alloc (Nat.le_refl _) _)
  go_enter Tryz.func200, Tryz.ntmps200
  go_wp2
  go_ret
  exact ⟨rfl, HB.out⟩

set_option maxRecDepth 100000 in
set_option maxHeartbeats 2000000 in
theorem eright_nil_true (A : Option Addr) (c : Nat) (w : World) :
    Calls Tryz.prog 200 #[.agg #[.bool true, .slice A 0 c]] w fun e w' => e = .returned (.bool false) ∧ Below w.heap.size w w' := by
  have HB := Lib.hid (show Below w.heap.size w (w.alloc (.cells #[.bool true, .slice A 0 c] 36)) from (Below.refl _ w).alloc (Nat.le_refl _) _)
  go_enter Tryz.func200, Tryz.ntmps200
  go_wp2
  go_ret
  exact ⟨rfl, HB.out⟩

set_option maxRecDepth 100000 in
set_option maxHeartbeats 2000000 in
theorem eright_long (s : Bool) (A : Option Addr) (c j : Nat) (xs : List Nat) (w : World) (ha : Rd w A xs) (hx : Lm xs) (hj : xs.length = j + 1) (hl : j ≤ 1000) (h : 64 ≤ j) :
    Calls Tryz.prog 200 #[.agg #[.bool s, .slice A (j + 1) c]] w fun e w' => e = .returned (.bool false) ∧ Below w.heap.size w w' := by
  have HB := Lib.hid (show Below w.heap.size w (w.alloc (.cells #[.bool s, .slice A (j + 1) c] 36)) from (Below.refl _ w).alloc (Nat.le_refl _) _)
  have d1 : decide (((j + 1 : Nat) : Int) ≤ 64) = false := decide_eq_false (by omega)
  have d2 : decide (j + 1 ≤ 64) = false := decide_eq_false (by omega)
  have d3 : decide ((j : Int) + 1 ≤ 64) = false := decide_eq_false (by omega)
  clear ha hx
  go_enter Tryz.func200, Tryz.ntmps200
  go_wp2
  go_ret
  exact ⟨rfl, HB.out⟩

set_option maxRecDepth 100000 in
set_option maxHeartbeats 2000000 in
theorem eright_zero (s : Bool) (A : Option Addr) (c j : Nat) (xs : List Nat) (w : World) (ha : Rd w A xs) (hx : Lm xs) (hj : xs.length = j + 1) (hl : j ≤ 1000) (h : j < 64) (hz : xs[j]?.getD 0 = 0) :
    Calls Tryz.prog 200 #[.agg #[.bool s, .slice A (j + 1) c]] w fun e w' => e = .returned (.bool false) ∧ Below w.heap.size w w' := by
  have HB := Lib.hid (show Below w.heap.size w (w.alloc (.cells #[.bool s, .slice A (j + 1) c] 36)) from (Below.refl _ w).alloc (Nat.le_refl _) _)
  have d1 : decide (((j + 1 : Nat) : Int) ≤ 64) = true := decide_eq_true (by omega)
  have d2 : decide (j + 1 ≤ 64) = true := decide_eq_true (by omega)
  have d3 : decide ((j : Int) + 1 ≤ 64) = true := decide_eq_true (by omega)
  obtain ⟨b, off, rfl, hb, hcell⟩ := (ha.alloc (.cells #[.bool s, .slice A (j + 1) c] 36)).at_ (by omega : j < xs.length)
  obtain ⟨y, hy⟩ : ∃ y, xs[j]?.getD 0 = y := ⟨_, rfl⟩
  rw [hy] at hz hcell
  have hz2 : (((y : Nat) : Int) == 0) = true := by rw [hz]; rfl
  have hz3 : (((y : Nat) : Int) != 0) = false := by rw [bne, hz2]; rfl
  subst hz
  have hb2 : b < w.heap.size + 1 := by simpa using hb
  clear ha hx hy
  go_enter Tryz.func200, Tryz.ntmps200
  go_wp2
  go_ret
  exact ⟨rfl, HB.out⟩

set_option maxRecDepth 100000 in
set_option maxHeartbeats 2000000 in
theorem eright_top (s : Bool) (A : Option Addr) (c j : Nat) (xs : List Nat) (w : World) (ha : Rd w A xs) (hx : Lm xs) (hj : xs.length = j + 1) (hl : j ≤ 1000) (h : j < 64) (hz : xs[j]?.getD 0 ≠ 0) :
    Calls Tryz.prog 200 #[.agg #[.bool s, .slice A (j + 1) c]] w fun e w' => e = .returned (.bool true) ∧ Below w.heap.size w w' := by
  have HB := Lib.hid (show Below w.heap.size w (w.alloc (.cells #[.bool s, .slice A (j + 1) c] 36)) from (Below.refl _ w).alloc (Nat.le_refl _) _)
  have d1 : decide (((j + 1 : Nat) : Int) ≤ 64) = true := decide_eq_true (by omega)
  have d2 : decide (j + 1 ≤ 64) = true := decide_eq_true (by omega)
  have d3 : decide ((j : Int) + 1 ≤ 64) = true := decide_eq_true (by omega)
  obtain ⟨b, off, rfl, hb, hcell⟩ := (ha.alloc (.cells #[.bool s, .slice A (j + 1) c] 36)).at_ (by omega : j < xs.length)
  obtain ⟨y, hy⟩ : ∃ y, xs[j]?.getD 0 = y := ⟨_, rfl⟩
  rw [hy] at hz hcell
  have hz2 : (((y : Nat) : Int) == 0) = false := by rw [beq_eq_false_iff_ne]; omega
  have hz3 : (((y : Nat) : Int) != 0) = true := by rw [bne, hz2]; rfl
  clear hz
  have hb2 : b < w.heap.size + 1 := by simpa using hb
  clear ha hx hy
  go_enter Tryz.func200, Tryz.ntmps200
  go_wp2
  go_ret
  exact ⟨rfl, HB.out⟩

theorem small_len {r : List Nat} (hc : Can r) (h : val r < 18446744073709551616 * 2) : r.length ≤ 3 := by
  rcases Nat.lt_or_ge 3 r.length with h1 | h1
  · have h2 := (can_len hc 3).1 h1
    have h3 : (4294967296 : Nat) ^ 3 = 18446744073709551616 * 4294967296 := by decide
    omega
  · exact h1

set_option maxRecDepth 100000 in
set_option maxHeartbeats 2000000 in
theorem rof2_pos (m : Nat) (hm : m ≤ 9223372036854775807) (w : World) :
    Calls Tryz.prog 144 #[.int .i64 (m : Int)] w (RetR w (sg false m)) := by
  obtain ⟨hb0, x0⟩ := newc1 w
  have HB0 := Lib.hid hb0
  have X0 := Lib.hid x0
  have H1 := Lib.hid (rof_any m (w.alloc (.cells #[.bool false, .slice none 0 0] 36)) (by omega))
  have hneg : decide (0 ≤ (m : Int)) = true := decide_eq_true (by omega)
  clear hb0 x0
  go_enter Tryz.func144, Tryz.ntmps144
  go_wp2_with fail
  refine H1.out.mono ?_
  rintro e w2 ⟨⟨v, rfl, A1, c1, r1, rfl, -, h3, h4, h5⟩, hb2⟩
  have hl := small_len h4 (by omega)
  have HM := Lib.hid (rmade_num false A1 c1 r1 w2 (by omega) h3 h4)
  rw [h5] at HM
  have Z2 := Lib.hid (X0.out.below hb2)
  have HB2 := Lib.hid (HB0.out.trans (hb2.mono HB0.out.size))
  clear h3 h4 h5 hb2
  go_wp2_with fail
  refine HM.out.mono ?_
  rintro e w3 ⟨s3, A3, n3, c3, rfl, hv3, hb3⟩
  have Z3 := Lib.hid (Z2.out.below hb3)
  obtain ⟨q0, q1, z0, z1, zl⟩ := Z3.out.facts
  have HB3 := Lib.hid (HB2.out.trans (hb3.mono HB2.out.size))
  have HV3 := Lib.hid hv3
  clear hv3 hb3
  go_wp2
  obtain ⟨W4, hW4, Z, hb4, -, hv4, -, -⟩ := stored_world Z3.out HB3.out (by omega) s3 A3 n3 c3
  rw [hW4]
  have HV4 := Lib.hid (hv4 _ _ HV3.out)
  obtain ⟨c0, c1', -, -, -⟩ := Z.facts
  clear q0 q1 z0 z1 zl hW4 hv4
  refine bodyPost_ret (v := .agg #[.bool s3, .slice A3 n3 c3]) (by simp [results, Tryz.results144, go_sem, c0, c1']) rfl ?_
  exact ⟨_, _, _, _, rfl, HV4.out, hb4⟩

set_option maxRecDepth 100000 in
set_option maxHeartbeats 2000000 in
theorem rof2_neg (k : Nat) (hm : k ≤ 9223372036854775807) (w : World) :
    Calls Tryz.prog 144 #[.int .i64 (-(k : Int) - 1)] w (RetR w (sg true (k + 1))) := by
  obtain ⟨hb0, x0⟩ := newc1 w
  have HB0 := Lib.hid hb0
  have X0 := Lib.hid x0
  have H1 := Lib.hid (rof_any k (w.alloc (.cells #[.bool false, .slice none 0 0] 36)) (by omega))
  have hneg : decide (0 ≤ -(k : Int) - 1) = false := decide_eq_false (by omega)
  have hsub : -1 - (-(k : Int) - 1) = (k : Int) := by omega
  clear hb0 x0
  go_enter Tryz.func144, Tryz.ntmps144
  go_wp2_with fail
  refine H1.out.mono ?_
  rintro e w2 ⟨⟨v, rfl, A1, c1, r1, rfl, -, h3, h4, h5⟩, hb2⟩
  have hl := small_len h4 (by omega)
  have hb3 : Below w.heap.size w (w2.alloc (.cells #[.int .u32 1] 108)) := (HB0.out.trans (hb2.mono HB0.out.size)).alloc (HB0.out.trans (hb2.mono HB0.out.size)).size _
  have r1n : Rd (w2.alloc (.cells #[.int .u32 1] 108)) (some ⟨w2.heap.size, 0, none⟩) [1] := rd_new w2 [1]
  have HP := Lib.hid (rplus_any A1 (some ⟨w2.heap.size, 0, none⟩) c1 1 r1 [1] _ (h3.alloc _) r1n h4.1 (lm_of (by decide)) (by omega) (by decide))
  rw [h5, show val [1] = 1 from rfl] at HP
  have Z1 := Lib.hid ((X0.out.below hb2).alloc (.cells #[.int .u32 1] 108))
  have HB1 := Lib.hid hb3
  clear h3 h4 h5 hb2 hb3 r1n
  go_wp2_with fail
  refine HP.out.mono ?_
  rintro e w5 ⟨⟨v, rfl, A2, c2, r2, rfl, -, h3, h4, h5⟩, hb5⟩
  have hl2 := small_len h4 (by omega)
  have HM := Lib.hid (rmade_num true A2 c2 r2 w5 (by omega) h3 h4)
  rw [h5] at HM
  have Z2 := Lib.hid (Z1.out.below hb5)
  have HB2 := Lib.hid (HB1.out.trans (hb5.mono HB1.out.size))
  clear h3 h4 h5 hb5
  go_wp2_with fail
  refine HM.out.mono ?_
  rintro e w3 ⟨s3, A3, n3, c3, rfl, hv3, hb3⟩
  have Z3 := Lib.hid (Z2.out.below hb3)
  obtain ⟨q0, q1, z0, z1, zl⟩ := Z3.out.facts
  have HB3 := Lib.hid (HB2.out.trans (hb3.mono HB2.out.size))
  have HV3 := Lib.hid hv3
  clear hv3 hb3
  go_wp2
  obtain ⟨W4, hW4, Z, hb4, -, hv4, -, -⟩ := stored_world Z3.out HB3.out (by omega) s3 A3 n3 c3
  rw [hW4]
  have HV4 := Lib.hid (hv4 _ _ HV3.out)
  obtain ⟨c0, c1', -, -, -⟩ := Z.facts
  clear q0 q1 z0 z1 zl hW4 hv4
  refine bodyPost_ret (v := .agg #[.bool s3, .slice A3 n3 c3]) (by simp [results, Tryz.results144, go_sem, c0, c1']) rfl ?_
  exact ⟨_, _, _, _, rfl, HV4.out, hb4⟩

theorem rof2_int (z : Int) (h1 : -9223372036854775808 ≤ z) (h2 : z ≤ 9223372036854775807) (w : World) : Calls Tryz.prog 144 #[.int .i64 z] w (RetR w z) := by
  by_cases h : z < 0
  · obtain ⟨k, rfl⟩ : ∃ k : Nat, z = -(k : Int) - 1 := ⟨(-z - 1).toNat, by omega⟩
    have := rof2_neg k (by omega) w
    rw [show sg true (k + 1) = -(k : Int) - 1 from by simp [sg]; omega] at this
    exact this
  · obtain ⟨m, rfl⟩ : ∃ m : Nat, z = (m : Int) := ⟨z.natAbs, by omega⟩
    have := rof2_pos m (by omega) w
    rw [show sg false m = (m : Int) from rfl] at this
    exact this

theorem val_drop_step (xs : List Nat) (j : Nat) (hj : j < xs.length) : val (xs.drop j) = xs[j]?.getD 0 + 4294967296 * val (xs.drop (j + 1)) := by rw [drop_cons_get xs j hj, val]
theorem wrap64_u (V : Nat) (h : V < 18446744073709551616) : -9223372036854775808 ≤ wrap64 (V : Int) ∧ wrap64 (V : Int) ≤ 9223372036854775807 ∧ (wrap64 (V : Int) = (V : Int) ↔ V ≤ 9223372036854775807) := by
  unfold wrap64
  omega
theorem wrap64_d (V : Nat) (h : V < 18446744073709551616) : -9223372036854775808 ≤ wrap64 (IntKind.u64.wrap (-(V : Int))) ∧ wrap64 (IntKind.u64.wrap (-(V : Int))) ≤ 9223372036854775807 ∧ (wrap64 (IntKind.u64.wrap (-(V : Int))) = -(V : Int) ↔ V ≤ 9223372036854775808) := by
  rw [IntKind.wrap_u64]
  unfold wrap64
  omega

theorem SmallE.form {x : Int} {e : Ending} (h : SmallE x e) : ∃ (k : Int) (b : Bool), e = .returned (.tuple #[.int .i64 k, .bool b]) ∧ (k, b) = (if -9223372036854775808 ≤ x ∧ x ≤ 9223372036854775807 then (x, true) else (0, false)) := by
  rcases h with ⟨h1, h2, h3⟩ | ⟨h1, h3⟩
  · exact ⟨_, _, h3, by rw [if_pos ⟨h1, h2⟩]⟩
  · exact ⟨_, _, h3, by rw [if_neg h1]⟩
/-- exact's Right, of lists that aren't too long -/
theorem eright_any (s : Bool) (A : Option Addr) (c : Nat) (xs : List Nat) (w : World) (ha : Rd w A xs) (hx : Lm xs) (hl : xs.length ≤ 1000) :
    Calls Tryz.prog 200 #[.agg #[.bool s, .slice A xs.length c]] w fun e w' => e = .returned (.bool (rightB s xs)) ∧ Below w.heap.size w w' := by
  rcases xs with _ | ⟨x, r⟩
  · cases s with
    | false =>
      rw [show rightB false [] = true from decide_eq_true ⟨by decide, rfl, by simp⟩]
      exact eright_nil_false A c w
    | true =>
      rw [show rightB true [] = false from decide_eq_false fun h => h.2.2 ⟨rfl, rfl⟩]
      exact eright_nil_true A c w
  · have hj : (x :: r).length = r.length + 1 := rfl
    generalize x :: r = xs at *
    generalize r.length = j at *
    rw [hj]
    by_cases h : 64 ≤ j
    · rw [show rightB s xs = false from decide_eq_false fun k => by have := k.1; omega]
      exact eright_long s A c j xs w ha hx hj (by omega) h
    · by_cases hz : xs[j]?.getD 0 = 0
      · rw [show rightB s xs = false from decide_eq_false fun k => (trim_last hj).1 k.2.1 hz]
        exact eright_zero s A c j xs w ha hx hj (by omega) (by omega) hz
      · rw [show rightB s xs = true from decide_eq_true ⟨by omega, (trim_last hj).2 hz, fun k => by have := k.2; omega⟩]
        exact eright_top s A c j xs w ha hx hj (by omega) (by omega) hz

end LM
end Go.Proofs.YtcfhiihhfcnfbaaGreatDoor

namespace Go.Proofs.YtcfhiihhfcnfbaaGreatDoor
open Go.RowKit
namespace LM
set_option linter.unusedVariables false

def RPowE (w : World) (o : Option Int) (e : Ending) (w' : World) : Prop := ∃ s A n c er, e = .returned (.tuple #[.agg #[.bool s, .slice A n c], .int .i64 er]) ∧
  ((o = none ∧ er = 11 ∧ IntR w' (.agg #[.bool s, .slice A n c]) 0) ∨ (∃ z, o = some z ∧ er = 0 ∧ ¬ BigI z ∧ IntR w' (.agg #[.bool s, .slice A n c]) z)) ∧ Below w.heap.size w w'
def PwR (w wx : World) (g : Nat) (p a : Int) : Prop := ∃ s8 A8 n8 c8 s9 A9 n9 c9, w.heap.size + 1 + 1 < g ∧
  Bx wx g s8 A8 n8 c8 ∧ Bx wx w.heap.size s9 A9 n9 c9 ∧ Bx wx (w.heap.size + 1 + 1) false none 0 0 ∧ IntR wx (.agg #[.bool s8, .slice A8 n8 c8]) p ∧ IntR wx (.agg #[.bool s9, .slice A9 n9 c9]) a ∧ Below w.heap.size w wx

end LM
end Go.Proofs.YtcfhiihhfcnfbaaGreatDoor

namespace Go.Proofs.YtcfhiihhfcnfbaaGreatDoor
open Go.RowKit
namespace LM
set_option linter.unusedVariables false

set_option maxRecDepth 100000 in
set_option maxHeartbeats 4000000 in
theorem epow_bad (s t : Bool) (A B : Option Addr) (n c m d : Nat) (x : Int) (w : World) (hn : IntV w (.agg #[.bool t, .slice B m d]) x) (hx : ¬ (0 ≤ x ∧ x ≤ 1000)) :
    Calls Tryz.prog 93 #[.agg #[.bool s, .slice A n c], .agg #[.bool t, .slice B m d]] w fun e w' => e = .returned (.tuple #[.agg #[.bool false, .slice none 0 0], .int .i64 21]) ∧ Below w.heap.size w w' := by
  obtain ⟨hb0, x0, y0, z0⟩ := new3 w s t A B n c m d
  have HB0 := Lib.hid hb0
  have XS0 := Lib.hid (((Bxs.nil.cons z0).cons y0).cons x0)
  have C1 := Lib.hid (esmall_int (hn.keep hb0))
  clear hb0 x0 y0 z0 hn
  go_enter Tryz.func93, Tryz.ntmps93
  go_wp2_with fail
  refine C1.out.mono ?_
  rintro e w1 ⟨he1, hb1⟩
  have XR1 := Lib.hid (XS0.out.below hb1).tl.tl.hd
  have HB1 := Lib.hid (HB0.out.trans (hb1.mono HB0.out.size))
  obtain ⟨q0, q1, q2, q3, ql⟩ := XR1.out.facts
  clear hb1 C1
  obtain ⟨V, hV, ZR, hbV, -, -, -, -⟩ := stored_world XR1.out HB1.out (by omega) false none 0 0
  obtain ⟨z0, z1, z2, z3, z4⟩ := ZR.facts
  have HBV := Lib.hid hbV
  clear hbV
  rcases he1 with ⟨r1, r2, rfl⟩ | ⟨r1, rfl⟩
  · by_cases hx0 : x < 0
    · have d1 : decide (x < 0) = true := decide_eq_true hx0
      go_wp2
      first | rw [hV] | skip
      refine bodyPost_ret (v := .tuple #[.agg #[.bool false, .slice none 0 0], .int .i64 21]) (by simp [results, Tryz.results93, go_sem, z0, z1]) rfl ?_
      exact ⟨rfl, HBV.out⟩
    · have d1 : decide (x < 0) = false := decide_eq_false hx0
      have d2 : decide (1000 < x) = true := decide_eq_true (by omega)
      go_wp2
      first | rw [hV] | skip
      refine bodyPost_ret (v := .tuple #[.agg #[.bool false, .slice none 0 0], .int .i64 21]) (by simp [results, Tryz.results93, go_sem, z0, z1]) rfl ?_
      exact ⟨rfl, HBV.out⟩
  · clear r1
    go_wp2
    first | rw [hV] | skip
    refine bodyPost_ret (v := .tuple #[.agg #[.bool false, .slice none 0 0], .int .i64 21]) (by simp [results, Tryz.results93, go_sem, z0, z1]) rfl ?_
    exact ⟨rfl, HBV.out⟩

def powR (x y : Int) : Int × Int := if 0 ≤ y ∧ y ≤ 1000 then (match powI y.natAbs 1 x with | none => (0, 11) | some z => (z, 0)) else (0, 21)
theorem zero_fits : ¬ BigI 0 := small_not_big (by decide)
theorem epow_all (s t : Bool) (A B : Option Addr) (n c m d : Nat) (x y : Int) (w : World) (ha : IntV w (.agg #[.bool s, .slice A n c]) x) (hn : IntV w (.agg #[.bool t, .slice B m d]) y) (na : ¬ BigI x) :
    Calls Tryz.prog 93 #[.agg #[.bool s, .slice A n c], .agg #[.bool t, .slice B m d]] w fun e w' => ∃ s1 A1 n1 c1, e = .returned (.tuple #[.agg #[.bool s1, .slice A1 n1 c1], .int .i64 (powR x y).2]) ∧ IntV w' (.agg #[.bool s1, .slice A1 n1 c1]) (powR x y).1 ∧ Below w.heap.size w w' := by
  unfold powR
  by_cases h : 0 ≤ y ∧ y ≤ 1000
  · rw [if_pos h]
    obtain ⟨k, rfl⟩ : ∃ k : Nat, y = (k : Int) := ⟨y.natAbs, by omega⟩
    refine (epow_go s t A B n c m d x k w ha hn na (by omega)).mono ?_
    rintro e w' ⟨s1, A1, n1, c1, er, rfl, hc, hb⟩
    rw [Int.natAbs_natCast]
    rcases hc with ⟨h1, rfl, h3⟩ | ⟨z, h1, rfl, h3⟩
    · rw [h1]
      exact ⟨s1, A1, n1, c1, rfl, h3, hb⟩
    · rw [h1]
      exact ⟨s1, A1, n1, c1, rfl, h3, hb⟩
  · rw [if_neg h]
    refine (epow_bad s t A B n c m d y w hn h).mono ?_
    rintro e w' ⟨rfl, hb⟩
    exact ⟨_, _, _, _, rfl, intV_zero _, hb⟩
end LM
end Go.Proofs.YtcfhiihhfcnfbaaGreatDoor

namespace Go.Proofs.YtcfhiihhfcnfbaaGreatDoor
open Go.RowKit
namespace LM
set_option linter.unusedVariables false

/-- a slice that reads as this number, without leading zeros, with its room -/
def NumC (w : World) (v : Value) (n : Nat) : Prop := ∃ A c r, v = .slice A (List.length r) c ∧ (List.length r ≤ c ∧ c ≤ 9223372036854775807) ∧ Rd w A r ∧ Can r ∧ val r = n
def RetO (w : World) (z : Int) (e : Ending) (w' : World) : Prop := ∃ s A n c, e = .returned (.agg #[.bool s, .slice A n c]) ∧ IntV w' (.agg #[.bool s, .slice A n c]) z ∧ Below w.heap.size w w'

set_option maxRecDepth 100000 in
set_option maxHeartbeats 1000000 in
theorem rtrimc_any (A : Option Addr) (c : Nat) (xs : List Nat) (w : World) (hr : Rd w A xs) (hx : Lm xs) (hl : xs.length ≤ 1000000) (hnil : A = none → xs.length = 0 ∧ c = 0) :
    Calls Tryz.prog 118 #[.slice A xs.length c] w fun e w' => (∃ v, e = .returned v ∧ NumC w' v (val xs)) ∧ Below w.heap.size w w' := by
  obtain ⟨i0, hi0, hz0, hz1, hz2⟩ := info_parts u32_info
  rcases A with _ | ad
  · obtain ⟨hx0, rfl⟩ := hnil rfl
    obtain rfl : xs = [] := List.eq_nil_of_length_eq_zero hx0
    have hrow : (w.alloc (.cells #[] 108)).ownsRow w.heap.size 108 1 (.slice (some ⟨w.heap.size, 0, none⟩) 0 0) 0 [] :=
      ⟨rfl, .inr ⟨w.heap.size, 0, #[], rfl, Nat.le_refl _, heap_alloc_new w _, Nat.le_refl _, by decide, rfl, rfl⟩⟩
    go_enter Tryz.func118, Tryz.ntmps118
    go_wp2_with (at_builtin; refine wpList_append_own_none _ rfl _ _ 34 rfl w.heap.size 108 i0 1 Tryz.underlying34 hi0 _ _ _ rfl hrow rfl ?_)
    go_loopw [3] (fun v wr => v = .slice (some ⟨w.heap.size, 0, none⟩) 0 0 ∧ w.alloc (.cells #[] 108) = wr) (fun _ _ => 0)
    case atStart => exact ⟨rfl, rfl⟩
    case round =>
      obtain ⟨rfl, rfl⟩ := hrel
      go_wp2
      go_ret
      exact ⟨⟨_, rfl, _, _, [], rfl, ⟨by decide, by decide⟩, Rd.nil, can_nil, rfl⟩, (Below.refl _ _).alloc (Nat.le_refl _) _⟩
  · have hrow : (w.alloc (.cells #[] 108)).ownsRow w.heap.size 108 1 (.slice (some ⟨w.heap.size, 0, none⟩) 0 0) 0 [] :=
      ⟨rfl, .inr ⟨w.heap.size, 0, #[], rfl, Nat.le_refl _, heap_alloc_new w _, Nat.le_refl _, by decide, rfl, rfl⟩⟩
    have hsrc : ∀ j u, (U xs)[j]? = some u → (w.alloc (.cells #[] 108)).cell? (ad.add j) = some u := by
      intro j u hu
      have hj : j < xs.length := by
        rcases Nat.lt_or_ge j xs.length with h | h
        · exact h
        · rw [List.getElem?_eq_none (by rw [U_len]; exact h)] at hu; cases hu
      obtain ⟨b, off, e, hb, hc⟩ := hr.at_ hj
      injection e with e
      subst e
      rw [U_get _ _ hj] at hu
      rw [← hu, ← hc, addr_add]
      exact World.cell?_of_block (a := ⟨b, off + j, none⟩) (Below.heap_alloc w _ b hb)
    go_enter Tryz.func118, Tryz.ntmps118
    go_wp2_with (at_builtin; refine wpList_append_own _ rfl _ _ 34 rfl w.heap.size 108 i0 (.int .u32 0) 1 4 Tryz.underlying34 hi0 hz0 hz1 hz2 rfl (by decide) _ _ _ rfl hrow ad xs.length c (U xs) rfl (by simp [U_len]) hsrc (u_one xs) (by unfold maxLen; omega) (by omega) (by simp) ?_; intro v1 w1 hown1 hg1 hiff)
    have hb1 : Below w.heap.size w w1 := ((Below.refl _ w).alloc (Nat.le_refl _) _).grown hg1 (by simp) (fun k e => by have e2 : (Value.slice (some ⟨w.heap.size, 0, none⟩) 0 0).ownBlock = some k := e; have e3 : some w.heap.size = some k := e2; injection e3 with e3; omega)
    simp only [Nat.zero_add, List.nil_append] at hown1
    have hfin : ∀ v2, (∃ k cap g, v2 = .slice (some ⟨g, 0, none⟩) k cap ∧ k = (trim xs).length ∧ (xs.length ≤ cap ∧ cap ≤ 9223372036854775807) ∧ Rd w1 (some ⟨g, 0, none⟩) xs) → NumC w1 v2 (val xs) := by
      rintro v2 ⟨k, cap, g, rfl, rfl, hc9, hrd⟩
      exact ⟨_, _, trim xs, rfl, ⟨Nat.le_trans (trim_length_le xs) hc9.1, hc9.2⟩, hrd.trim, can_trim hx, val_trim xs⟩
    have HFIN := Lib.hid hfin
    clear hfin
    rcases own_cases hown1 with ⟨rfl, rfl⟩ | ⟨g, cap, rest, rfl, hgb, hB1, hcap, hcm, hlen⟩
    · have h := (hiff.1 rfl).1
      have h2 : Value.slice (some ⟨w.heap.size, 0, none⟩) 0 0 = .slice none 0 0 := h
      cases h2
    · clear hiff
      have hrd : Rd w1 (some ⟨g, 0, none⟩) xs := fun hl0 => ⟨g, 0, rfl, hB1.lt, fun k hk => by
        rw [Nat.zero_add, hB1.cell, List.getElem?_append_left (by rw [U_len]; exact hk), U_get _ _ hk]⟩
      have hlen2 := Lib.hid hlen
      have HOWN := Lib.hid hown1
      clear hlen hown1 hg1
      unfold maxLen at hcm
      have HCAP := Lib.hid (show xs.length ≤ cap ∧ cap ≤ 9223372036854775807 from ⟨hcap, by omega⟩)
      go_wp2_with fail
      go_loopw [3] (fun v wr => RtRel xs w1 g cap v wr) (fun v _ => lenS v)
      case atStart => exact ⟨xs.length, Nat.le_refl _, rfl, by rw [List.take_length], rfl⟩
      case round =>
        obtain ⟨k, hk, rfl, ht, rfl⟩ := hrel
        have HT := Lib.hid ht
        clear ht
        rcases k with _ | j
        · go_wp2
          go_ret
          refine ⟨⟨_, rfl, HFIN.out _ ⟨0, cap, g, rfl, ?_, HCAP.out, hrd⟩⟩, hb1⟩
          exact congrArg List.length HT.out
        · obtain ⟨b, off, e, hb, hcell⟩ := hrd.at_ (by omega : j < xs.length)
          cases e
          rw [Nat.zero_add] at hcell
          by_cases hz : xs[j]?.getD 0 = 0
          · have h1 := trim_take_zero xs j (by omega) hz
            rw [hz] at hcell
            clear hz
            have H1 := Lib.hid h1
            clear h1
            go_wp2
            go_roundw
            case rel => exact ⟨j, by omega, by go_num, by rw [← H1.out, HT.out], rfl⟩
            case measure => simp [lenS]
          · have hzz : (((xs[j]?.getD 0 : Nat) : Int) == 0) = false := by rw [beq_eq_false_iff_ne]; omega
            have h1 := trim_take_pos xs j (by omega) hz
            clear hz
            have H1 := Lib.hid h1
            clear h1
            go_wp2
            go_ret
            refine ⟨⟨_, rfl, HFIN.out _ ⟨j + 1, cap, g, rfl, ?_, HCAP.out, hrd⟩⟩, hb1⟩
            have h := congrArg List.length (H1.out.symm.trans HT.out)
            rw [List.length_take, Nat.min_eq_left hk] at h
            exact h

set_option maxHeartbeats 400000 in
theorem rofc_any (n : Nat) (w : World) (hn : n < 18446744073709551616) :
    Calls Tryz.prog 213 #[.int .u64 (n : Int)] w fun e w' => (∃ v, e = .returned v ∧ NumC w' v n) ∧ Below w.heap.size w w' := by
  have e1 : (n : Int) % 4294967296 = ((n % 4294967296 : Nat) : Int) := by simp
  have e2 : (n : Int) / 4294967296 = ((n / 4294967296 : Nat) : Int) := by simp
  have l1 : n % 4294967296 < 4294967296 := Nat.mod_lt _ (by decide)
  have l2 : n / 4294967296 < 4294967296 := by omega
  have hv : val [n % 4294967296, n / 4294967296] = n := by simp [val]; omega
  generalize n % 4294967296 = lo at *
  generalize n / 4294967296 = hi at *
  have HV := Lib.hid hv
  clear hv
  have hrd : Rd (w.alloc (.cells #[.int .u32 (lo : Int), .int .u32 (hi : Int)] 108)) (some ⟨w.heap.size, 0, none⟩) [lo, hi] := by
    have h := Rd.of_blk (w := w.alloc (.cells #[.int .u32 (lo : Int), .int .u32 (hi : Int)] 108)) (g := w.heap.size) (pre := []) (xs := [lo, hi]) (post := []) (by simpa [U] using Blk.new w (U [lo, hi]))
    simpa using h
  go_enter Tryz.func213, Tryz.ntmps213
  go_wp2_with fail
  refine (rtrimc_any (some ⟨w.heap.size, 0, none⟩) 2 [lo, hi] _ hrd (Lm.cons l1 (Lm.cons l2 Lm.nil)) (by simp) (fun h => by cases h)).mono ?_
  rintro e w1 ⟨⟨v, rfl, hnv⟩, hb⟩
  rw [HV.out] at hnv
  have HN := Lib.hid hnv
  have HB := Lib.hid hb
  clear hnv hb
  go_wp2
  go_ret
  exact ⟨⟨v, rfl, HN.out⟩, ((Below.refl _ _).alloc (Nat.le_refl _) _).trans (HB.out.mono (by simp))⟩

set_option maxRecDepth 100000 in
set_option maxHeartbeats 1000000 in
theorem rplusc_any (A B : Option Addr) (ca cb : Nat) (xs ys : List Nat) (w : World) (ha : Rd w A xs) (hb : Rd w B ys) (hx : Lm xs) (hy : Lm ys) (hlx : xs.length ≤ 10000) (hly : ys.length ≤ 10000) :
    Calls Tryz.prog 214 #[.slice A xs.length ca, .slice B ys.length cb] w fun e w' => (∃ v, e = .returned v ∧ NumC w' v (val xs + val ys)) ∧ Below w.heap.size w w' := by
  obtain ⟨i0, hi0, hz0, hz1, hz2⟩ := info_parts u32_info
  have K1 := Lib.hid (fun k y W h hk (hy : xs[k]?.getD 0 = y) => rat_any A ca xs k y W h hk (by omega) hy (by rw [← hy]; exact hx.get k))
  have K2 := Lib.hid (fun k y W h hk (hv : ys[k]?.getD 0 = y) => rat_any B cb ys k y W h hk (by omega) hv (by rw [← hv]; exact hy.get k))
  have hrow : (w.alloc (.cells #[] 108)).ownsRow w.heap.size 108 1 (.slice (some ⟨w.heap.size, 0, none⟩) 0 0) 0 [] :=
    ⟨rfl, .inr ⟨w.heap.size, 0, #[], rfl, Nat.le_refl _, heap_alloc_new w _, Nat.le_refl _, by decide, rfl, rfl⟩⟩
  go_enter Tryz.func214, Tryz.ntmps214
  go_wp2
  go_loopw [5, 6, 7] (fun v c i wr => PlRel w xs ys v c i wr) (fun _ _ i _ => max xs.length ys.length + 1 - (intOf i).toNat)
  case atStart => exact ⟨0, [], 0, Nat.zero_le _, rfl, rfl, by decide, fun _ => rfl, rfl, Lm.nil, by simp [val], hrow, (Below.refl _ _).alloc (Nat.le_refl _) _⟩
  case round =>
    clear hrow
    obtain ⟨k, zs, cy, hk, rfl, rfl, hcy, h0, hzl, hzL, hv, hown, hbe⟩ := hrel
    have HV := Lib.hid hv
    have HZ := Lib.hid hzl
    have H0 := Lib.hid h0
    clear hv h0
    have hra := ha.below hbe
    have hrb := hb.below hbe
    have hxk := hx.get k
    have hyk := hy.get k
    have hst := addTo_step (xs := xs) (ys := ys) hzl HV.out
    have hy0 : max xs.length ys.length < k + 1 → xs[k]?.getD 0 = 0 ∧ ys[k]?.getD 0 = 0 := fun h => ⟨by rw [List.getElem?_eq_none (by omega)]; rfl, by rw [List.getElem?_eq_none (by omega)]; rfl⟩
    have c1 := K1.out k
    have c2 := K2.out k
    generalize hxe : xs[k]?.getD 0 = x at *
    generalize hye : ys[k]?.getD 0 = y at *
    have HST := Lib.hid hst
    have HY0 := Lib.hid hy0
    have C1 := Lib.hid c1
    have C2 := Lib.hid c2
    clear hst hy0 c1 c2 hxe hye hzl
    rw [HZ.out] at hown
    have hbs := hbe.size
    by_cases t1 : k < xs.length
    · have hm : k ≤ max xs.length ys.length := by omega
      go_wp2_with fail
      refine (C1.out _ _ hra (by omega) rfl).mono ?_; rintro e w1 ⟨rfl, rfl⟩
      go_wp2_with fail
      refine (C2.out _ _ hrb (by omega) rfl).mono ?_; rintro e w1 ⟨rfl, rfl⟩
      go_wp2_with (at_builtin; refine wpList_append_own _ rfl _ _ 34 rfl w.heap.size 108 i0 (.int .u32 0) 1 4 Tryz.underlying34 hi0 hz0 hz1 hz2 rfl (by decide) _ _ _ rfl (hown.alloc _) ⟨wr.heap.size, 0, none⟩ 1 1 [.int .u32 (((x : Int) + (y : Int) + (cy : Int)) % 4294967296)] rfl rfl (cell_one_new _ _ _) (by simp [Value.oneCell']) (by unfold maxLen; omega) (by omega) (by simp; omega) ?_; intro v1 w1 hown1 hg1 _)
      go_roundw
      case rel =>
        refine ⟨k + 1, zs ++ [(x + y + cy) % 4294967296], (x + y + cy) / 4294967296, by omega, by go_num, by congr 1, by omega, fun h => ?_, by simp [HZ.out], hzL.snoc (Nat.mod_lt _ (by decide)), HST.out, ?_, ?_⟩
        · obtain ⟨rfl, rfl⟩ := HY0.out h
          omega
        · have e : (zs ++ [(x + y + cy) % 4294967296]).length = k + 1 := by simp [HZ.out]
          rw [e, U_append]
          exact hown1
        · exact (hbe.alloc hbs _).grown hg1 (by simp; omega) (fun b e => plus_block hown e)
      case measure => simp [intOf]; omega
    · by_cases t2 : k < ys.length
      · have hm : k ≤ max xs.length ys.length := by omega
        go_wp2_with fail
        refine (C1.out _ _ hra (by omega) rfl).mono ?_; rintro e w1 ⟨rfl, rfl⟩
        go_wp2_with fail
        refine (C2.out _ _ hrb (by omega) rfl).mono ?_; rintro e w1 ⟨rfl, rfl⟩
        go_wp2_with (at_builtin; refine wpList_append_own _ rfl _ _ 34 rfl w.heap.size 108 i0 (.int .u32 0) 1 4 Tryz.underlying34 hi0 hz0 hz1 hz2 rfl (by decide) _ _ _ rfl (hown.alloc _) ⟨wr.heap.size, 0, none⟩ 1 1 [.int .u32 (((x : Int) + (y : Int) + (cy : Int)) % 4294967296)] rfl rfl (cell_one_new _ _ _) (by simp [Value.oneCell']) (by unfold maxLen; omega) (by omega) (by simp; omega) ?_; intro v1 w1 hown1 hg1 _)
        go_roundw
        case rel =>
          refine ⟨k + 1, zs ++ [(x + y + cy) % 4294967296], (x + y + cy) / 4294967296, by omega, by go_num, by congr 1, by omega, fun h => ?_, by simp [HZ.out], hzL.snoc (Nat.mod_lt _ (by decide)), HST.out, ?_, ?_⟩
          · obtain ⟨rfl, rfl⟩ := HY0.out h
            omega
          · have e : (zs ++ [(x + y + cy) % 4294967296]).length = k + 1 := by simp [HZ.out]
            rw [e, U_append]
            exact hown1
          · exact (hbe.alloc hbs _).grown hg1 (by simp; omega) (fun b e => plus_block hown e)
        case measure => simp [intOf]; omega
      · rcases Nat.eq_zero_or_pos cy with rfl | t3
        · have hv := HV.out
          rw [List.take_of_length_le (by omega : xs.length ≤ k), List.take_of_length_le (by omega : ys.length ≤ k), Nat.mul_zero, Nat.add_zero] at hv
          rw [← HZ.out] at hown
          obtain ⟨A1, c1, rfl, hrz, hnz⟩ := own_rd hown
          have HVV := Lib.hid hv
          have HOW := Lib.hid hown
          have hzn : zs.length ≤ 20002 := by rw [HZ.out]; omega
          clear hv hown
          go_wp2_with fail
          refine (rtrimc_any A1 c1 zs wr hrz hzL (by omega) hnz).mono ?_
          rintro e w1 ⟨⟨v, rfl, hn⟩, hb1⟩
          rw [HVV.out] at hn
          have HN := Lib.hid hn
          have HB := Lib.hid hb1
          clear hn hb1
          go_wp2
          go_ret
          exact ⟨⟨v, rfl, HN.out⟩, hbe.trans (HB.out.mono hbs)⟩
        · have hm : k ≤ max xs.length ys.length := by
            rcases Nat.lt_or_ge (max xs.length ys.length) k with h | h
            · have := H0.out h; omega
            · exact h
          go_wp2_with fail
          refine (C1.out _ _ hra (by omega) rfl).mono ?_; rintro e w1 ⟨rfl, rfl⟩
          go_wp2_with fail
          refine (C2.out _ _ hrb (by omega) rfl).mono ?_; rintro e w1 ⟨rfl, rfl⟩
          go_wp2_with (at_builtin; refine wpList_append_own _ rfl _ _ 34 rfl w.heap.size 108 i0 (.int .u32 0) 1 4 Tryz.underlying34 hi0 hz0 hz1 hz2 rfl (by decide) _ _ _ rfl (hown.alloc _) ⟨wr.heap.size, 0, none⟩ 1 1 [.int .u32 (((x : Int) + (y : Int) + (cy : Int)) % 4294967296)] rfl rfl (cell_one_new _ _ _) (by simp [Value.oneCell']) (by unfold maxLen; omega) (by omega) (by simp; omega) ?_; intro v1 w1 hown1 hg1 _)
          go_roundw
          case rel =>
            refine ⟨k + 1, zs ++ [(x + y + cy) % 4294967296], (x + y + cy) / 4294967296, by omega, by go_num, by congr 1, by omega, fun h => ?_, by simp [HZ.out], hzL.snoc (Nat.mod_lt _ (by decide)), HST.out, ?_, ?_⟩
            · obtain ⟨rfl, rfl⟩ := HY0.out h
              omega
            · have e : (zs ++ [(x + y + cy) % 4294967296]).length = k + 1 := by simp [HZ.out]
              rw [e, U_append]
              exact hown1
            · exact (hbe.alloc hbs _).grown hg1 (by simp; omega) (fun b e => plus_block hown e)
          case measure => simp [intOf]; omega

set_option maxRecDepth 100000 in
set_option maxHeartbeats 1000000 in
theorem rmadec_nil (neg : Bool) (A : Option Addr) (c : Nat) (w : World) :
    Calls Tryz.prog 210 #[.bool neg, .slice A 0 c] w (RetO w 0) := by
  obtain ⟨hb0, x0⟩ := newc1 w
  have HB0 := Lib.hid hb0
  have X0 := Lib.hid x0
  clear hb0 x0
  go_enter Tryz.func210, Tryz.ntmps210
  go_wp2
  refine bodyPost_ret (v := .agg #[.bool false, .slice none 0 0]) (by simp [results, Tryz.results210, go_sem]) rfl ?_
  exact ⟨_, _, _, _, rfl, ⟨none, 0, [], rfl, by decide, by decide, Rd.nil, can_nil, rfl⟩, HB0.out⟩

set_option maxRecDepth 100000 in
set_option maxHeartbeats 1000000 in
theorem rmadec_some (neg : Bool) (A : Option Addr) (c : Nat) (r : List Nat) (w : World) (h0 : 0 < r.length) (hl : r.length ≤ 10000) (h1 : r.length ≤ c) (h2 : c ≤ 9223372036854775807) (h3 : Rd w A r) (h4 : Can r) :
    Calls Tryz.prog 210 #[.bool neg, .slice A r.length c] w (RetO w (sg neg (val r))) := by
  have hz : ((r.length : Int) == 0) = false := by simp; intro h; rw [h] at h0; simp at h0
  have HR := Lib.hid (h3.alloc (.cells #[.bool neg, .slice A r.length c] 36))
  have HP := Lib.hid ((can_pos h4).1 h0)
  have HC := Lib.hid h4
  have HK := Lib.hid (show r.length ≤ c ∧ c ≤ 9223372036854775807 from ⟨h1, h2⟩)
  clear h0 h3 h4
  go_enter Tryz.func210, Tryz.ntmps210
  go_wp2
  refine bodyPost_ret (v := .agg #[.bool neg, .slice A r.length c]) (by simp [results, Tryz.results210, go_sem]) rfl ?_
  refine ⟨_, _, _, _, rfl, ⟨A, c, r, ?_, HK.out.1, HK.out.2, HR.out, HC.out, (sg_abs _ _).symm⟩, (Below.refl _ _).alloc (Nat.le_refl _) _⟩
  rw [sg_neg, decide_eq_true HP.out, Bool.and_true]

theorem rmadec_num (neg : Bool) (A : Option Addr) (c : Nat) (r : List Nat) (w : World) (hl : r.length ≤ 10000) (h1 : r.length ≤ c) (h2 : c ≤ 9223372036854775807) (h3 : Rd w A r) (h4 : Can r) :
    Calls Tryz.prog 210 #[.bool neg, .slice A r.length c] w (RetO w (sg neg (val r))) := by
  rcases Nat.eq_zero_or_pos r.length with h | h
  · have hv : val r = 0 := (can_zero h4).1 h
    rw [h, hv, sg_zero]
    exact rmadec_nil neg A c w
  · exact rmadec_some neg A c r w h hl h1 h2 h3 h4

theorem small_len2 {r : List Nat} (hc : Can r) (h : val r < 18446744073709551616 * 2) : r.length ≤ 3 := by
  rcases Nat.lt_or_ge 3 r.length with h1 | h1
  · have h2 := (can_len hc 3).1 h1
    have h3 : (4294967296 : Nat) ^ 3 = 18446744073709551616 * 4294967296 := by decide
    omega
  · exact h1

set_option maxRecDepth 100000 in
set_option maxHeartbeats 2000000 in
theorem rof2c_pos (m : Nat) (hm : m ≤ 9223372036854775807) (w : World) :
    Calls Tryz.prog 144 #[.int .i64 (m : Int)] w (RetO w (sg false m)) := by
  obtain ⟨hb0, x0⟩ := newc1 w
  have HB0 := Lib.hid hb0
  have X0 := Lib.hid x0
  have H1 := Lib.hid (rofc_any m (w.alloc (.cells #[.bool false, .slice none 0 0] 36)) (by omega))
  have hneg : decide (0 ≤ (m : Int)) = true := decide_eq_true (by omega)
  clear hb0 x0
  go_enter Tryz.func144, Tryz.ntmps144
  go_wp2_with fail
  refine H1.out.mono ?_
  rintro e w2 ⟨⟨v, rfl, A1, c1, r1, rfl, ⟨hcc, hcm⟩, h3, h4, h5⟩, hb2⟩
  have hl := small_len2 h4 (by omega)
  have HM := Lib.hid (rmadec_num false A1 c1 r1 w2 (by omega) hcc hcm h3 h4)
  rw [h5] at HM
  have Z2 := Lib.hid (X0.out.below hb2)
  have HB2 := Lib.hid (HB0.out.trans (hb2.mono HB0.out.size))
  clear h3 h4 h5 hb2
  go_wp2_with fail
  refine HM.out.mono ?_
  rintro e w3 ⟨s3, A3, n3, c3, rfl, hv3, hb3⟩
  have Z3 := Lib.hid (Z2.out.below hb3)
  obtain ⟨q0, q1, z0, z1, zl⟩ := Z3.out.facts
  have HB3 := Lib.hid (HB2.out.trans (hb3.mono HB2.out.size))
  have HV3 := Lib.hid hv3
  clear hv3 hb3
  go_wp2
  obtain ⟨W4, hW4, Z, hb4, hv4, -, -, -⟩ := stored_world Z3.out HB3.out (by omega) s3 A3 n3 c3
  rw [hW4]
  have HV4 := Lib.hid (hv4 _ _ HV3.out)
  obtain ⟨c0, c1', -, -, -⟩ := Z.facts
  clear q0 q1 z0 z1 zl hW4 hv4
  refine bodyPost_ret (v := .agg #[.bool s3, .slice A3 n3 c3]) (by simp [results, Tryz.results144, go_sem, c0, c1']) rfl ?_
  exact ⟨_, _, _, _, rfl, HV4.out, hb4⟩

set_option maxRecDepth 100000 in
set_option maxHeartbeats 2000000 in
theorem rof2c_neg (k : Nat) (hm : k ≤ 9223372036854775807) (w : World) :
    Calls Tryz.prog 144 #[.int .i64 (-(k : Int) - 1)] w (RetO w (sg true (k + 1))) := by
  obtain ⟨hb0, x0⟩ := newc1 w
  have HB0 := Lib.hid hb0
  have X0 := Lib.hid x0
  have H1 := Lib.hid (rofc_any k (w.alloc (.cells #[.bool false, .slice none 0 0] 36)) (by omega))
  have hneg : decide (0 ≤ -(k : Int) - 1) = false := decide_eq_false (by omega)
  have hsub : -1 - (-(k : Int) - 1) = (k : Int) := by omega
  clear hb0 x0
  go_enter Tryz.func144, Tryz.ntmps144
  go_wp2_with fail
  refine H1.out.mono ?_
  rintro e w2 ⟨⟨v, rfl, A1, c1, r1, rfl, ⟨hcc, hcm⟩, h3, h4, h5⟩, hb2⟩
  have hl := small_len2 h4 (by omega)
  have hb3 : Below w.heap.size w (w2.alloc (.cells #[.int .u32 1] 108)) := (HB0.out.trans (hb2.mono HB0.out.size)).alloc (HB0.out.trans (hb2.mono HB0.out.size)).size _
  have r1n : Rd (w2.alloc (.cells #[.int .u32 1] 108)) (some ⟨w2.heap.size, 0, none⟩) [1] := rd_new w2 [1]
  have HP := Lib.hid (rplusc_any A1 (some ⟨w2.heap.size, 0, none⟩) c1 1 r1 [1] _ (h3.alloc _) r1n h4.1 (lm_of (by decide)) (by omega) (by decide))
  rw [h5, show val [1] = 1 from rfl] at HP
  have Z1 := Lib.hid ((X0.out.below hb2).alloc (.cells #[.int .u32 1] 108))
  have HB1 := Lib.hid hb3
  clear h3 h4 h5 hb2 hb3 r1n
  go_wp2_with fail
  refine HP.out.mono ?_
  rintro e w5 ⟨⟨v, rfl, A2, c2, r2, rfl, ⟨hcc, hcm⟩, h3, h4, h5⟩, hb5⟩
  have hl2 := small_len2 h4 (by omega)
  have HM := Lib.hid (rmadec_num true A2 c2 r2 w5 (by omega) hcc hcm h3 h4)
  rw [h5] at HM
  have Z2 := Lib.hid (Z1.out.below hb5)
  have HB2 := Lib.hid (HB1.out.trans (hb5.mono HB1.out.size))
  clear h3 h4 h5 hb5
  go_wp2_with fail
  refine HM.out.mono ?_
  rintro e w3 ⟨s3, A3, n3, c3, rfl, hv3, hb3⟩
  have Z3 := Lib.hid (Z2.out.below hb3)
  obtain ⟨q0, q1, z0, z1, zl⟩ := Z3.out.facts
  have HB3 := Lib.hid (HB2.out.trans (hb3.mono HB2.out.size))
  have HV3 := Lib.hid hv3
  clear hv3 hb3
  go_wp2
  obtain ⟨W4, hW4, Z, hb4, hv4, -, -, -⟩ := stored_world Z3.out HB3.out (by omega) s3 A3 n3 c3
  rw [hW4]
  have HV4 := Lib.hid (hv4 _ _ HV3.out)
  obtain ⟨c0, c1', -, -, -⟩ := Z.facts
  clear q0 q1 z0 z1 zl hW4 hv4
  refine bodyPost_ret (v := .agg #[.bool s3, .slice A3 n3 c3]) (by simp [results, Tryz.results144, go_sem, c0, c1']) rfl ?_
  exact ⟨_, _, _, _, rfl, HV4.out, hb4⟩

theorem rof2c_int (z : Int) (h1 : -9223372036854775808 ≤ z) (h2 : z ≤ 9223372036854775807) (w : World) : Calls Tryz.prog 144 #[.int .i64 z] w (RetO w z) := by
  by_cases h : z < 0
  · obtain ⟨k, rfl⟩ : ∃ k : Nat, z = -(k : Int) - 1 := ⟨(-z - 1).toNat, by omega⟩
    have := rof2c_neg k (by omega) w
    rw [show sg true (k + 1) = -(k : Int) - 1 from by simp [sg]; omega] at this
    exact this
  · obtain ⟨m, rfl⟩ : ∃ m : Nat, z = (m : Int) := ⟨z.natAbs, by omega⟩
    have := rof2c_pos m (by omega) w
    rw [show sg false m = (m : Int) from rfl] at this
    exact this

end LM
end Go.Proofs.YtcfhiihhfcnfbaaGreatDoor
