/- The statement TowerWholes, at any two numbers; how such a number is read. -/
import Derived.Test.YtpaefbojilnnnaaGreatDoorJ46
import Derived.Test.YtpaefbojilnnnaaGreatDoorJ28
import Derived.Test.YtpaefbojilnnnaaGreatDoorJ49
import Derived.Test.YtpaefbojilnnnaaGreatDoorJ19
import Derived.Lib.SmallJoins
import Derived.Deep.Strs
import Derived.OpenShut
import Derived.ShutString
namespace Go.Proofs.YtpaefbojilnnnaaGreatDoor
open Go Go.RowKit
namespace LM
set_option linter.unusedVariables false
attribute [local go_sem] run_store_flt

set_option maxRecDepth 100000 in
set_option maxHeartbeats 4000000 in
theorem twhole_flo1 (op : Int) (fl : Bool) (f fb : Nat) (s : Bool) (A : Option Addr) (n c : Nat) (s' : Bool) (A' : Option Addr) (n' c' : Nat) (w : World) :
    Calls Tryz.prog 32 #[.int .i64 op, numA true f s A n c, numA fl fb s' A' n' c'] w fun e w' => e = .returned (.tuple #[numA false 0 false none 0 0, .int .i64 41]) ∧ Below w.heap.size w w' := by
  go_enter Tryz.func32, Tryz.ntmps32
  go_wp2_with (fail)
  refine bodyPost_ret (v := .tuple #[numA false 0 false none 0 0, .int .i64 41]) (by simp [results, Tryz.results32, go_sem]) rfl ?_
  exact ⟨rfl, (((Below.refl _ w).alloc (Nat.le_refl _) _).alloc (by simp) _).alloc (by simp; omega) _⟩

set_option maxRecDepth 100000 in
set_option maxHeartbeats 4000000 in
theorem tw_other (op : Int) (f f0 : Nat) (s : Bool) (A : Option Addr) (n c : Nat) (s' : Bool) (A' : Option Addr) (n' c' : Nat) (x y : Int) (w : World) (h0 : op ≠ 0) (h1 : op ≠ 1) (h2 : op ≠ 2) (h3 : op ≠ 3) (h4 : op ≠ 4) :
    Calls Tryz.prog 32 #[.int .i64 op, numA false f s A n c, numA false f0 s' A' n' c'] w (RetW w op x y) := by
  have W1 := Lib.hid twhole_any
  obtain ⟨W0, hW0, hb0, hO⟩ := four_blk w f f0 s A n c s' A' n' c'
  have O0 := Lib.hid hO
  have HB0 := Lib.hid hb0
  have HW0 := Lib.hid hW0
  have HA : Hid (AnsW op x y 0 41) := Lib.hid (.inr (.inr (.inr (.inr (.inr ⟨⟨h0, h1, h2, h3, h4⟩, rfl, rfl⟩)))))
  have e0 : (op == 0) = false := by rw [beq_eq_false_iff_ne]; exact h0
  have e1 : (op == 1) = false := by rw [beq_eq_false_iff_ne]; exact h1
  have e2 : (op == 2) = false := by rw [beq_eq_false_iff_ne]; exact h2
  have e3 : (op == 3) = false := by rw [beq_eq_false_iff_ne]; exact h3
  have e4 : (op == 4) = false := by rw [beq_eq_false_iff_ne]; exact h4
  clear hO hb0 hW0 h0 h1 h2 h3 h4
  go_enter Tryz.func32, Tryz.ntmps32
  go_wp2_with (fail)
  rw [HW0.out]
  refine (W1.out _ _ _ _ _).mono ?_
  rintro e w3 ⟨rfl, hb3, hv3⟩
  have Y3 := (O0.out.below hb3).tl.nx0
  obtain ⟨W, hW, ZR, hbW, hvW, -⟩ := stored_num Y3 (bel_trans (B := w.heap.size) HB0.out hb3) (by omega) false 0 false none 0 0
  obtain ⟨u0, u1, u2, u3, -, -, -, -, ul⟩ := ZR.facts
  obtain ⟨y0, y1, y2, y3, y4, y5, y6, y7, yl⟩ := Y3.facts
  have HBW := Lib.hid hbW
  have HVW := Lib.hid (intV_zero W)
  clear hbW hvW ZR Y3 hb3 hv3
  go_wp2_with (fail)
  first | rw [hW] | skip
  refine bodyPost_ret (v := .tuple #[numA false 0 false none 0 0, .int .i64 41]) (by simp [results, Tryz.results32, go_sem, u0, u1, u2, u3]) rfl ?_
  exact ⟨_, _, _, _, _, _, rfl, HVW.out, HA.out, HBW.out⟩

set_option maxRecDepth 100000 in
set_option maxHeartbeats 4000000 in
theorem rout_ok (s : Bool) (A : Option Addr) (n c : Nat) (w : World) :
    Calls Tryz.prog 101 #[.agg #[.bool s, .slice A n c], .int .i64 0] w fun e w' => e = .returned (.tuple #[numA false 0 s A n c, .int .i64 0]) ∧ Below w.heap.size w w' := by
  go_enter Tryz.func101, Tryz.ntmps101
  go_wp2_with (fail)
  refine bodyPost_ret (v := .tuple #[numA false 0 s A n c, .int .i64 0]) (by simp [results, Tryz.results101, go_sem]) rfl ?_
  exact ⟨rfl, ((Below.refl _ w).alloc (Nat.le_refl _) _).alloc (by simp) _⟩
set_option maxRecDepth 100000 in
set_option maxHeartbeats 4000000 in
theorem rout_bad (er : Int) (he : er ≠ 0) (s : Bool) (A : Option Addr) (n c : Nat) (w : World) :
    Calls Tryz.prog 101 #[.agg #[.bool s, .slice A n c], .int .i64 er] w fun e w' => e = .returned (.tuple #[numA false 0 false none 0 0, .int .i64 er]) ∧ Below w.heap.size w w' := by
  have e0 : (er != 0) = true := by rw [bne_iff_ne]; exact he
  clear he
  go_enter Tryz.func101, Tryz.ntmps101
  go_wp2_with (fail)
  refine bodyPost_ret (v := .tuple #[numA false 0 false none 0 0, .int .i64 er]) (by simp [results, Tryz.results101, go_sem]) rfl ?_
  exact ⟨rfl, ((Below.refl _ w).alloc (Nat.le_refl _) _).alloc (by simp) _⟩
theorem rout_any (er z : Int) (s : Bool) (A : Option Addr) (n c : Nat) (w : World) (hv : IntR w (.agg #[.bool s, .slice A n c]) z) (h : er = 0 ∨ (er ≠ 0 ∧ z = 0)) :
    Calls Tryz.prog 101 #[.agg #[.bool s, .slice A n c], .int .i64 er] w fun e w' => ∃ s1 A1 n1 c1, e = .returned (.tuple #[numA false 0 s1 A1 n1 c1, .int .i64 er]) ∧ IntR w' (.agg #[.bool s1, .slice A1 n1 c1]) z ∧ Below w.heap.size w w' := by
  rcases h with rfl | ⟨h1, rfl⟩
  · exact (rout_ok s A n c w).mono fun e w' ⟨h1, h2⟩ => ⟨_, _, _, _, h1, hv.keep h2, h2⟩
  · exact (rout_bad er h1 s A n c w).mono fun e w' ⟨h2, h3⟩ => ⟨_, _, _, _, h2, intR_nil _, h3⟩

def RetWR (w : World) (op x y : Int) (e : Ending) (w' : World) : Prop := ∃ s1 A1 n1 c1 z er, e = .returned (.tuple #[numA false 0 s1 A1 n1 c1, .int .i64 er]) ∧ IntR w' (.agg #[.bool s1, .slice A1 n1 c1]) z ∧ AnsW op x y z er ∧ Below w.heap.size w w'
theorem QOut.err {x y q r e : Int} (h : QOut x y q r e) : (e = 0 ∨ (e ≠ 0 ∧ q = 0)) ∧ (e = 0 ∨ (e ≠ 0 ∧ r = 0)) := by
  rcases h with ⟨_, h1, h2, h3⟩ | ⟨_, h1, _, _⟩
  · exact ⟨.inr ⟨by omega, h2⟩, .inr ⟨by omega, h3⟩⟩
  · exact ⟨.inl h1, .inl h1⟩
theorem MOut.err {x y m e : Int} (h : MOut x y m e) : e = 0 ∨ (e ≠ 0 ∧ m = 0) := by
  rcases h with ⟨_, h1, h2⟩ | ⟨_, h1, _⟩
  · exact .inr ⟨by omega, h2⟩
  · exact .inl h1
theorem powR_err (x y : Int) : (powR x y).2 = 0 ∨ ((powR x y).2 ≠ 0 ∧ (powR x y).1 = 0) := by
  unfold powR
  split
  · split
    · exact .inr ⟨by decide, rfl⟩
    · exact .inl rfl
  · exact .inr ⟨by decide, rfl⟩

set_option maxRecDepth 100000 in
set_option maxHeartbeats 4000000 in
theorem rtw_quo (f f0 : Nat) (s : Bool) (A : Option Addr) (n c : Nat) (s' : Bool) (A' : Option Addr) (n' c' : Nat) (x y : Int) (w : World) (hx : IntR w (.agg #[.bool s, .slice A n c]) x) (hy : IntR w (.agg #[.bool s', .slice A' n' c']) y)
    (nx : ¬ BigI x) (ny : ¬ BigI y) : Calls Tryz.prog 40 #[.int .i64 0, numA false f s A n c, numA false f0 s' A' n' c'] w (RetWR w 0 x y) := by
  have U1 := Lib.hid rout_any
  obtain ⟨W0, hW0, hb0, hO⟩ := three_num w false f s A n c false f0 s' A' n' c'
  have C1 := Lib.hid (rquo2_int (hx.keep hb0) (hy.keep hb0) nx ny)
  have O0 := Lib.hid hO
  have HB0 := Lib.hid hb0
  have HW0 := Lib.hid hW0
  clear hx hy nx ny hO hb0 hW0
  go_enter Tryz.func40, Tryz.ntmps40
  go_wp2_with (fail)
  rw [HW0.out]
  refine C1.out.mono ?_
  rintro e w1 ⟨s2, A2, n2, c2, s3, A3, n3, c3, er, zq, zr, rfl, hvq, -, ho, hb1⟩
  have HA := Lib.hid (show AnsW 0 x y zq er from .inl ⟨rfl, _, ho⟩)
  have hbk := bel_trans (B := w.heap.size) HB0.out hb1
  have O2 := Lib.hid (((O0.out.below hb1).alloc (intO s2 A2 n2 c2)).alloc (intO s3 A3 n3 c3))
  have HB2 := Lib.hid ((hbk.alloc hbk.size (intO s2 A2 n2 c2)).alloc (by have := hbk.size; simp; omega) (intO s3 A3 n3 c3))
  have D1 := Lib.hid (U1.out er zq _ _ _ _ _ ((hvq.alloc (intO s2 A2 n2 c2)).alloc (intO s3 A3 n3 c3)) ho.err.1)
  clear ho hb1 hbk hvq
  go_wp2_with (fail)
  refine D1.out.mono ?_
  rintro e w4 ⟨s4, A4, n4, c4, rfl, hv4, hb4⟩
  have Y4 := (O2.out.below hb4).nx0
  obtain ⟨W, hW, ZR, hbW, -, hvW⟩ := stored_num Y4 (bel_trans (B := w.heap.size) HB2.out hb4) (by omega) false 0 s4 A4 n4 c4
  obtain ⟨u0, u1, u2, u3, -, -, -, -, ul⟩ := ZR.facts
  obtain ⟨y0, y1, y2, y3, y4, y5, y6, y7, yl⟩ := Y4.facts
  have HBW := Lib.hid hbW
  have HVW := Lib.hid (hvW _ _ hv4)
  clear hbW hvW ZR Y4 hb4 hv4
  go_wp2_with (fail)
  first | rw [hW] | skip
  refine bodyPost_ret (v := .tuple #[numA false 0 s4 A4 n4 c4, .int .i64 er]) (by simp [results, Tryz.results40, go_sem, u0, u1, u2, u3]) rfl ?_
  exact ⟨_, _, _, _, _, _, rfl, HVW.out, HA.out, HBW.out⟩

set_option maxRecDepth 100000 in
set_option maxHeartbeats 4000000 in
theorem rtw_rem (f f0 : Nat) (s : Bool) (A : Option Addr) (n c : Nat) (s' : Bool) (A' : Option Addr) (n' c' : Nat) (x y : Int) (w : World) (hx : IntR w (.agg #[.bool s, .slice A n c]) x) (hy : IntR w (.agg #[.bool s', .slice A' n' c']) y)
    (nx : ¬ BigI x) (ny : ¬ BigI y) : Calls Tryz.prog 40 #[.int .i64 1, numA false f s A n c, numA false f0 s' A' n' c'] w (RetWR w 1 x y) := by
  have U1 := Lib.hid rout_any
  obtain ⟨W0, hW0, hb0, hO⟩ := three_num w false f s A n c false f0 s' A' n' c'
  have C1 := Lib.hid (rquo2_int (hx.keep hb0) (hy.keep hb0) nx ny)
  have O0 := Lib.hid hO
  have HB0 := Lib.hid hb0
  have HW0 := Lib.hid hW0
  clear hx hy nx ny hO hb0 hW0
  go_enter Tryz.func40, Tryz.ntmps40
  go_wp2_with (fail)
  rw [HW0.out]
  refine C1.out.mono ?_
  rintro e w1 ⟨s2, A2, n2, c2, s3, A3, n3, c3, er, zq, zr, rfl, -, hvr, ho, hb1⟩
  have HA := Lib.hid (show AnsW 1 x y zr er from .inr (.inl ⟨rfl, _, ho⟩))
  have hbk := bel_trans (B := w.heap.size) HB0.out hb1
  have O2 := Lib.hid (((O0.out.below hb1).alloc (intO s2 A2 n2 c2)).alloc (intO s3 A3 n3 c3))
  have HB2 := Lib.hid ((hbk.alloc hbk.size (intO s2 A2 n2 c2)).alloc (by have := hbk.size; simp; omega) (intO s3 A3 n3 c3))
  have D1 := Lib.hid (U1.out er zr _ _ _ _ _ ((hvr.alloc (intO s2 A2 n2 c2)).alloc (intO s3 A3 n3 c3)) ho.err.2)
  clear ho hb1 hbk hvr
  go_wp2_with (fail)
  refine D1.out.mono ?_
  rintro e w4 ⟨s4, A4, n4, c4, rfl, hv4, hb4⟩
  have Y4 := (O2.out.below hb4).nx0
  obtain ⟨W, hW, ZR, hbW, -, hvW⟩ := stored_num Y4 (bel_trans (B := w.heap.size) HB2.out hb4) (by omega) false 0 s4 A4 n4 c4
  obtain ⟨u0, u1, u2, u3, -, -, -, -, ul⟩ := ZR.facts
  obtain ⟨y0, y1, y2, y3, y4, y5, y6, y7, yl⟩ := Y4.facts
  have HBW := Lib.hid hbW
  have HVW := Lib.hid (hvW _ _ hv4)
  clear hbW hvW ZR Y4 hb4 hv4
  go_wp2_with (fail)
  first | rw [hW] | skip
  refine bodyPost_ret (v := .tuple #[numA false 0 s4 A4 n4 c4, .int .i64 er]) (by simp [results, Tryz.results40, go_sem, u0, u1, u2, u3]) rfl ?_
  exact ⟨_, _, _, _, _, _, rfl, HVW.out, HA.out, HBW.out⟩

set_option maxRecDepth 100000 in
set_option maxHeartbeats 4000000 in
theorem rtw_mod (f f0 : Nat) (s : Bool) (A : Option Addr) (n c : Nat) (s' : Bool) (A' : Option Addr) (n' c' : Nat) (x y : Int) (w : World) (hx : IntR w (.agg #[.bool s, .slice A n c]) x) (hy : IntR w (.agg #[.bool s', .slice A' n' c']) y)
    (nx : ¬ BigI x) (ny : ¬ BigI y) : Calls Tryz.prog 40 #[.int .i64 2, numA false f s A n c, numA false f0 s' A' n' c'] w (RetWR w 2 x y) := by
  have U1 := Lib.hid rout_any
  obtain ⟨W0, hW0, hb0, hO⟩ := three_num w false f s A n c false f0 s' A' n' c'
  have C1 := Lib.hid (rmod2_int (hx.keep hb0) (hy.keep hb0) nx ny)
  have O0 := Lib.hid hO
  have HB0 := Lib.hid hb0
  have HW0 := Lib.hid hW0
  clear hx hy nx ny hO hb0 hW0
  go_enter Tryz.func40, Tryz.ntmps40
  go_wp2_with (fail)
  rw [HW0.out]
  refine C1.out.mono ?_
  rintro e w1 ⟨s2, A2, n2, c2, er, zm, rfl, hvm, ho, hb1⟩
  have HA := Lib.hid (show AnsW 2 x y zm er from .inr (.inr (.inl ⟨rfl, ho⟩)))
  have O2 := Lib.hid (O0.out.below hb1)
  have HB2 := Lib.hid (bel_trans (B := w.heap.size) HB0.out hb1)
  have D1 := Lib.hid (U1.out er zm _ _ _ _ _ hvm ho.err)
  clear ho hb1 hvm
  go_wp2_with (fail)
  refine D1.out.mono ?_
  rintro e w4 ⟨s4, A4, n4, c4, rfl, hv4, hb4⟩
  have Y4 := (O2.out.below hb4).nx0
  obtain ⟨W, hW, ZR, hbW, -, hvW⟩ := stored_num Y4 (bel_trans (B := w.heap.size) HB2.out hb4) (by omega) false 0 s4 A4 n4 c4
  obtain ⟨u0, u1, u2, u3, -, -, -, -, ul⟩ := ZR.facts
  obtain ⟨y0, y1, y2, y3, y4, y5, y6, y7, yl⟩ := Y4.facts
  have HBW := Lib.hid hbW
  have HVW := Lib.hid (hvW _ _ hv4)
  clear hbW hvW ZR Y4 hb4 hv4
  go_wp2_with (fail)
  first | rw [hW] | skip
  refine bodyPost_ret (v := .tuple #[numA false 0 s4 A4 n4 c4, .int .i64 er]) (by simp [results, Tryz.results40, go_sem, u0, u1, u2, u3]) rfl ?_
  exact ⟨_, _, _, _, _, _, rfl, HVW.out, HA.out, HBW.out⟩

set_option maxRecDepth 100000 in
set_option maxHeartbeats 4000000 in
theorem rtw_pow (f f0 : Nat) (s : Bool) (A : Option Addr) (n c : Nat) (s' : Bool) (A' : Option Addr) (n' c' : Nat) (x y : Int) (w : World) (hx : IntR w (.agg #[.bool s, .slice A n c]) x) (hy : IntR w (.agg #[.bool s', .slice A' n' c']) y)
    (nx : ¬ BigI x) (ny : ¬ BigI y)
    (hn : ∀ W, Below w.heap.size w W → Calls Tryz.prog 159 #[.agg #[.bool s', .slice A' n' c']] W fun e w' => SmallE y e ∧ Below W.heap.size W w') : Calls Tryz.prog 40 #[.int .i64 4, numA false f s A n c, numA false f0 s' A' n' c'] w (RetWR w 4 x y) := by
  have U1 := Lib.hid rout_any
  obtain ⟨W0, hW0, hb0, hO⟩ := three_num w false f s A n c false f0 s' A' n' c'
  have C1 := Lib.hid (rpow_all s s' A A' n c n' c' x y W0 (hx.keep hb0) (fun W' h' => hn W' (bel_trans (B := w.heap.size) hb0 h')) nx)
  have O0 := Lib.hid hO
  have HB0 := Lib.hid hb0
  have HW0 := Lib.hid hW0
  clear hx hy nx ny hO hb0 hW0 hn
  go_enter Tryz.func40, Tryz.ntmps40
  go_wp2_with (fail)
  rw [HW0.out]
  refine C1.out.mono ?_
  rintro e w1 ⟨s2, A2, n2, c2, rfl, hvm, -, hb1⟩
  have HA := Lib.hid (show AnsW 4 x y _ _ from .inr (.inr (.inr (.inr (.inl ⟨rfl, rfl, rfl⟩)))))
  have O2 := Lib.hid (O0.out.below hb1)
  have HB2 := Lib.hid (bel_trans (B := w.heap.size) HB0.out hb1)
  have D1 := Lib.hid (U1.out (powR x y).2 (powR x y).1 _ _ _ _ _ hvm (powR_err x y))
  clear hb1 hvm
  go_wp2_with (fail)
  refine D1.out.mono ?_
  rintro e w4 ⟨s4, A4, n4, c4, rfl, hv4, hb4⟩
  have Y4 := (O2.out.below hb4).nx0
  obtain ⟨W, hW, ZR, hbW, -, hvW⟩ := stored_num Y4 (bel_trans (B := w.heap.size) HB2.out hb4) (by omega) false 0 s4 A4 n4 c4
  obtain ⟨u0, u1, u2, u3, -, -, -, -, ul⟩ := ZR.facts
  obtain ⟨y0, y1, y2, y3, y4, y5, y6, y7, yl⟩ := Y4.facts
  have HBW := Lib.hid hbW
  have HVW := Lib.hid (hvW _ _ hv4)
  clear hbW hvW ZR Y4 hb4 hv4
  go_wp2_with (fail)
  first | rw [hW] | skip
  refine bodyPost_ret (v := .tuple #[numA false 0 s4 A4 n4 c4, .int .i64 (powR x y).2]) (by simp [results, Tryz.results40, go_sem, u0, u1, u2, u3]) rfl ?_
  exact ⟨_, _, _, _, _, _, rfl, HVW.out, HA.out, HBW.out⟩

set_option maxRecDepth 100000 in
set_option maxHeartbeats 4000000 in
theorem rtw_gcd (f f0 : Nat) (s : Bool) (A : Option Addr) (n c : Nat) (s' : Bool) (A' : Option Addr) (n' c' : Nat) (x y : Int) (w : World) (hx : IntR w (.agg #[.bool s, .slice A n c]) x) (hy : IntR w (.agg #[.bool s', .slice A' n' c']) y)
    (nx : ¬ BigI x) (ny : ¬ BigI y) : Calls Tryz.prog 40 #[.int .i64 3, numA false f s A n c, numA false f0 s' A' n' c'] w (RetWR w 3 x y) := by
  obtain ⟨W0, hW0, hb0, hO⟩ := three_num w false f s A n c false f0 s' A' n' c'
  have C1 := Lib.hid (rgcd_int (hx.keep hb0) (hy.keep hb0) nx ny)
  have O0 := Lib.hid hO
  have HB0 := Lib.hid hb0
  have HW0 := Lib.hid hW0
  clear hx hy nx ny hO hb0 hW0
  go_enter Tryz.func40, Tryz.ntmps40
  go_wp2_with (fail)
  rw [HW0.out]
  refine C1.out.mono ?_
  rintro e w4 ⟨s4, A4, n4, c4, rfl, hv4, hb4⟩
  have HA := Lib.hid (show AnsW 3 x y _ 0 from .inr (.inr (.inr (.inl ⟨rfl, rfl, rfl⟩))))
  have Y4 := (O0.out.below hb4).nx0
  obtain ⟨W, hW, ZR, hbW, -, hvW⟩ := stored_num Y4 (bel_trans (B := w.heap.size) HB0.out hb4) (by omega) false 0 s4 A4 n4 c4
  obtain ⟨u0, u1, u2, u3, -, -, -, -, ul⟩ := ZR.facts
  obtain ⟨y0, y1, y2, y3, y4, y5, y6, y7, yl⟩ := Y4.facts
  have HBW := Lib.hid hbW
  have HVW := Lib.hid (hvW _ _ hv4)
  clear hbW hvW ZR Y4 hb4 hv4
  go_wp2_with (fail)
  first | rw [hW] | skip
  refine bodyPost_ret (v := .tuple #[numA false 0 s4 A4 n4 c4, .int .i64 0]) (by simp [results, Tryz.results40, go_sem, u0, u1, u2, u3]) rfl ?_
  exact ⟨_, _, _, _, _, _, rfl, HVW.out, HA.out, HBW.out⟩

set_option maxRecDepth 100000 in
set_option maxHeartbeats 4000000 in
theorem rtw_none (op : Int) (fl flb : Bool) (f f0 : Nat) (s : Bool) (A : Option Addr) (n c : Nat) (s' : Bool) (A' : Option Addr) (n' c' : Nat) (w : World) (h : (decide (op < 0) || decide (4 < op) || fl || flb) = true) :
    Calls Tryz.prog 40 #[.int .i64 op, numA fl f s A n c, numA flb f0 s' A' n' c'] w fun e w' => e = .returned (.tuple #[numA false 0 false none 0 0, .int .i64 41]) ∧ Below w.heap.size w w' := by
  have hbe : Below w.heap.size w (((w.alloc (numO fl f s A n c)).alloc (numO flb f0 s' A' n' c')).alloc (numO false 0 false none 0 0)) := (((Below.refl _ w).alloc (Nat.le_refl _) _).alloc (by simp) _).alloc (by simp; omega) _
  have HB := Lib.hid hbe
  clear hbe
  by_cases h1 : op < 0
  · have e1 : decide (op < 0) = true := decide_eq_true h1
    clear h h1
    go_enter Tryz.func40, Tryz.ntmps40
    go_wp2_with (fail)
    refine bodyPost_ret (v := .tuple #[numA false 0 false none 0 0, .int .i64 41]) (by simp [results, Tryz.results40, go_sem]) rfl ?_
    exact ⟨rfl, HB.out⟩
  · have e1 : decide (op < 0) = false := decide_eq_false h1
    by_cases h2 : 4 < op
    · have e2 : decide (4 < op) = true := decide_eq_true h2
      clear h h1 h2
      go_enter Tryz.func40, Tryz.ntmps40
      go_wp2_with (fail)
      refine bodyPost_ret (v := .tuple #[numA false 0 false none 0 0, .int .i64 41]) (by simp [results, Tryz.results40, go_sem]) rfl ?_
      exact ⟨rfl, HB.out⟩
    · have e2 : decide (4 < op) = false := decide_eq_false h2
      rw [e1, e2, Bool.false_or, Bool.false_or] at h
      clear h1 h2
      cases fl
      · cases flb
        · cases h
        · clear h
          go_enter Tryz.func40, Tryz.ntmps40
          go_wp2_with (fail)
          refine bodyPost_ret (v := .tuple #[numA false 0 false none 0 0, .int .i64 41]) (by simp [results, Tryz.results40, go_sem]) rfl ?_
          exact ⟨rfl, HB.out⟩
      · clear h
        go_enter Tryz.func40, Tryz.ntmps40
        go_wp2_with (fail)
        refine bodyPost_ret (v := .tuple #[numA false 0 false none 0 0, .int .i64 41]) (by simp [results, Tryz.results40, go_sem]) rfl ?_
        exact ⟨rfl, HB.out⟩

end LM
end Go.Proofs.YtpaefbojilnnnaaGreatDoor

namespace Go.Proofs.YtpaefbojilnnnaaGreatDoor
open Go Go.RowKit
namespace LM
set_option linter.unusedVariables false
attribute [local go_sem] run_store_flt

/-- can it be? -/
def rightN (fl : Bool) (f : Nat) (s : Bool) (xs : List Nat) : Bool := if fl then (!s && decide (xs.length = 0)) else (decide (f = 0) && rightB s xs)

set_option maxRecDepth 100000 in
set_option maxHeartbeats 2000000 in
theorem rnright_f (f : Nat) (s : Bool) (A : Option Addr) (n c : Nat) (w : World) :
    Calls Tryz.prog 100 #[numA true f s A n c] w fun e w' => e = .returned (.bool (!s && decide (n = 0))) ∧ Below w.heap.size w w' := by
  have Y0 := Nx.new w true f s A n c
  have hb0 : Below w.heap.size w (w.alloc (numO true f s A n c)) := (Below.refl _ w).alloc (Nat.le_refl _) _
  obtain ⟨y0, y1, y2, y3, -, -, -, -, yl⟩ := Y0.facts
  have HB0 := Lib.hid hb0
  have hd : ((n : Int) == 0) = decide (n = 0) := by
    rw [Bool.eq_iff_iff, beq_iff_eq, decide_eq_true_iff]; omega
  clear hb0 Y0
  cases s
  · go_enter Tryz.func100, Tryz.ntmps100
    go_wp2_with (fail)
    go_ret
    exact ⟨rfl, HB0.out⟩
  · go_enter Tryz.func100, Tryz.ntmps100
    go_wp2_with (fail)
    go_ret
    exact ⟨rfl, HB0.out⟩
set_option maxRecDepth 100000 in
set_option maxHeartbeats 2000000 in
theorem rnright_n (f : Nat) (hf : f ≠ 0) (s : Bool) (A : Option Addr) (n c : Nat) (w : World) :
    Calls Tryz.prog 100 #[numA false f s A n c] w fun e w' => e = .returned (.bool false) ∧ Below w.heap.size w w' := by
  have Y0 := Nx.new w false f s A n c
  have hb0 : Below w.heap.size w (w.alloc (numO false f s A n c)) := (Below.refl _ w).alloc (Nat.le_refl _) _
  obtain ⟨y0, y1, y2, y3, -, -, -, -, yl⟩ := Y0.facts
  have HB0 := Lib.hid hb0
  have h1 := run_mbits f
  have hd : ((f : Int) == 0) = false := by
    rw [beq_eq_false_iff_ne]; omega
  clear hb0 Y0 hf
  go_enter Tryz.func100, Tryz.ntmps100
  go_wp2_with (fail)
  go_ret
  exact ⟨rfl, HB0.out⟩
set_option maxRecDepth 100000 in
set_option maxHeartbeats 2000000 in
theorem rnright_z (s : Bool) (A : Option Addr) (c : Nat) (xs : List Nat) (w : World) (ha : Rd w A xs) (hx : Lm xs) (hca : xs.length ≤ c) (hcm : c ≤ 9223372036854775807) (hnil : A = none → xs.length = 0 ∧ c = 0) :
    Calls Tryz.prog 100 #[numA false 0 s A xs.length c] w fun e w' => e = .returned (.bool (rightB s xs)) ∧ Below w.heap.size w w' := by
  have Y0 := Nx.new w false 0 s A xs.length c
  have hb0 : Below w.heap.size w (w.alloc (numO false 0 s A xs.length c)) := (Below.refl _ w).alloc (Nat.le_refl _) _
  obtain ⟨y0, y1, y2, y3, -, -, -, -, yl⟩ := Y0.facts
  have HB0 := Lib.hid hb0
  have h1 := run_mbits 0
  have R1 := Lib.hid (rright_any s A c xs _ (ha.below hb0) hx hca hcm hnil)
  clear hb0 Y0 ha hx hnil
  go_enter Tryz.func100, Tryz.ntmps100
  go_wp2_with (fail)
  refine R1.out.mono ?_
  rintro e w1 ⟨rfl, hb1⟩
  go_wp2_with (fail)
  go_ret
  exact ⟨rfl, bel_trans (B := w.heap.size) HB0.out hb1⟩
theorem rnright_any (fl : Bool) (f : Nat) (s : Bool) (A : Option Addr) (c : Nat) (xs : List Nat) (w : World) (ha : Rd w A xs) (hx : Lm xs) (hca : xs.length ≤ c) (hcm : c ≤ 9223372036854775807) (hnil : A = none → xs.length = 0 ∧ c = 0) :
    Calls Tryz.prog 100 #[numA fl f s A xs.length c] w fun e w' => e = .returned (.bool (rightN fl f s xs)) ∧ Below w.heap.size w w' := by
  unfold rightN
  cases fl
  · by_cases hf : f = 0
    · subst hf
      have h := rnright_z s A c xs w ha hx hca hcm hnil
      simpa using h
    · have h := rnright_n f hf s A xs.length c w
      rw [if_neg (by decide), decide_eq_false hf, Bool.false_and]
      exact h
  · rw [if_pos rfl]
    exact rnright_f f s A xs.length c w

set_option maxRecDepth 100000 in
set_option maxHeartbeats 2000000 in
/-- can both be? -/
theorem right2_any (fl : Bool) (f : Nat) (s : Bool) (A : Option Addr) (n c : Nat) (fl' : Bool) (f' : Nat) (s' : Bool) (A' : Option Addr) (n' c' : Nat) (ra rb : Bool) (w : World)
    (hA : ∀ W, Below w.heap.size w W → Calls Tryz.prog 100 #[numA fl f s A n c] W fun e w' => e = .returned (.bool ra) ∧ Below W.heap.size W w')
    (hB : ∀ W, Below w.heap.size w W → Calls Tryz.prog 100 #[numA fl' f' s' A' n' c'] W fun e w' => e = .returned (.bool rb) ∧ Below W.heap.size W w') :
    Calls Tryz.prog 39 #[numA fl f s A n c, numA fl' f' s' A' n' c'] w fun e w' => e = .returned (.bool (ra && rb)) ∧ Below w.heap.size w w' := by
  obtain ⟨W0, hW0, hb0, hO⟩ := two_num w fl f s A n c fl' f' s' A' n' c'
  have HB0 := Lib.hid hb0
  have O0 := Lib.hid hO
  have HW0 := Lib.hid hW0
  have C1 := Lib.hid (hA W0 hb0)
  have C2 := Lib.hid hB
  clear hb0 hO hW0 hA hB
  cases ra
  · go_enter Tryz.func39, Tryz.ntmps39
    go_wp2_with (fail)
    rw [HW0.out]
    refine C1.out.mono ?_
    rintro e w1 ⟨rfl, hb1⟩
    go_wp2_with (fail)
    go_ret
    exact ⟨rfl, bel_trans (B := w.heap.size) HB0.out hb1⟩
  · go_enter Tryz.func39, Tryz.ntmps39
    go_wp2_with (fail)
    rw [HW0.out]
    refine C1.out.mono ?_
    rintro e w1 ⟨rfl, hb1⟩
    have O1 := Lib.hid (O0.out.below hb1)
    have HB1 := Lib.hid (bel_trans (B := w.heap.size) HB0.out hb1)
    clear hb1
    obtain ⟨p0, p1, p2, p3, -, -, -, -, pl⟩ := O1.out.nx0.facts
    go_wp2_with (fail)
    refine (C2.out _ HB1.out).mono ?_
    rintro e w2 ⟨rfl, hb2⟩
    go_wp2_with (fail)
    go_ret
    exact ⟨rfl, bel_trans (B := w.heap.size) HB1.out hb2⟩

set_option maxRecDepth 100000 in
set_option maxHeartbeats 2000000 in
/-- two exact ones -/
theorem rnsame_i (f f' : Nat) (s : Bool) (A : Option Addr) (n c : Nat) (s' : Bool) (A' : Option Addr) (n' c' : Nat) (z : Int) (w : World) (hx : IntR w (.agg #[.bool s, .slice A n c]) z) (hy : IntR w (.agg #[.bool s', .slice A' n' c']) z) (nz : ¬ BigI z) :
    Calls Tryz.prog 41 #[numA false f s A n c, numA false f' s' A' n' c'] w fun e w' => e = .returned (.bool true) ∧ Below w.heap.size w w' := by
  obtain ⟨W0, hW0, hb0, hO⟩ := two_num w false f s A n c false f' s' A' n' c'
  have HB0 := Lib.hid hb0
  have HW0 := Lib.hid hW0
  have C1 := Lib.hid (rsame2_yes (hx.keep hb0) (hy.keep hb0) nz)
  clear hb0 hO hW0 hx hy nz
  go_enter Tryz.func41, Tryz.ntmps41
  go_wp2_with (fail)
  rw [HW0.out]
  refine C1.out.mono ?_
  rintro e w1 ⟨rfl, hb1⟩
  go_wp2_with (fail)
  go_ret
  exact ⟨rfl, bel_trans (B := w.heap.size) HB0.out hb1⟩

theorem powI_fit : ∀ (k : Nat) (p a z : Int), powI k p a = some z → ¬ BigI z := by
  intro k
  induction k using Nat.strongRecOn with
  | _ k ih =>
    intro p a z h
    rw [powI] at h
    obtain ⟨u, hu⟩ : ∃ u, (if k % 2 = 1 then p * a else p) = u := ⟨_, rfl⟩
    rw [hu] at h
    by_cases hb : BigI u
    · rw [if_pos hb] at h; cases h
    · rw [if_neg hb] at h
      by_cases h2 : k / 2 = 0
      · rw [if_pos h2] at h
        injection h with h
        rw [← h]
        exact hb
      · rw [if_neg h2] at h
        by_cases h3 : BigI (a * a)
        · rw [if_pos h3] at h; cases h
        · rw [if_neg h3] at h
          exact ih (k / 2) (by omega) _ _ _ h
theorem gcd_fits {x y : Int} (hx : ¬ BigI x) (hy : ¬ BigI y) : ¬ BigI (Nat.gcd x.natAbs y.natAbs : Nat) := by
  intro hb
  unfold BigI at *
  rw [Int.natAbs_natCast] at hb
  rcases Nat.eq_zero_or_pos x.natAbs with h | h
  · rw [h, Nat.gcd_zero_left] at hb
    exact hy hb
  · exact hx (hb.mono (Nat.gcd_le_left _ h))
theorem AnsW.fit {op x y z e : Int} (h : AnsW op x y z e) (hx : ¬ BigI x) (hy : ¬ BigI y) : ¬ BigI z := by
  rcases h with ⟨_, r, h⟩ | ⟨_, q, h⟩ | ⟨_, h⟩ | ⟨_, rfl, _⟩ | ⟨_, rfl, _⟩ | ⟨_, rfl, _⟩
  · exact (h.fit hx).1
  · exact (h.fit hx).2
  · exact h.fit hy
  · exact gcd_fits hx hy
  · unfold powR
    split
    · split
      · exact zero_fits
      · rename_i hz
        exact powI_fit _ _ _ _ hz
    · exact zero_fits
  · exact zero_fits

/-- the program's, whatever is done -/
theorem tw_any (op : Int) (f f0 : Nat) (s : Bool) (A : Option Addr) (n c : Nat) (s' : Bool) (A' : Option Addr) (n' c' : Nat) (x y : Int) (w : World) (hx : IntV w (.agg #[.bool s, .slice A n c]) x) (hy : IntV w (.agg #[.bool s', .slice A' n' c']) y) (nx : ¬ BigI x) (ny : ¬ BigI y) :
    Calls Tryz.prog 32 #[.int .i64 op, numA false f s A n c, numA false f0 s' A' n' c'] w (RetW w op x y) := by
  by_cases h0 : op = 0
  · subst h0; exact tw_quo f f0 s A n c s' A' n' c' x y w hx hy nx ny
  by_cases h1 : op = 1
  · subst h1; exact tw_rem f f0 s A n c s' A' n' c' x y w hx hy nx ny
  by_cases h2 : op = 2
  · subst h2; exact tw_mod f f0 s A n c s' A' n' c' x y w hx hy nx ny
  by_cases h3 : op = 3
  · subst h3; exact tw_gcd f f0 s A n c s' A' n' c' x y w hx hy nx ny
  by_cases h4 : op = 4
  · subst h4; exact tw_pow f f0 s A n c s' A' n' c' x y w hx hy nx ny
  exact tw_other op f f0 s A n c s' A' n' c' x y w h0 h1 h2 h3 h4
theorem rtw_any (op : Int) (f f0 : Nat) (s : Bool) (A : Option Addr) (n c : Nat) (s' : Bool) (A' : Option Addr) (n' c' : Nat) (x y : Int) (w : World) (hx : IntR w (.agg #[.bool s, .slice A n c]) x) (hy : IntR w (.agg #[.bool s', .slice A' n' c']) y) (nx : ¬ BigI x) (ny : ¬ BigI y)
    (hn : ∀ W, Below w.heap.size w W → Calls Tryz.prog 159 #[.agg #[.bool s', .slice A' n' c']] W fun e w' => SmallE y e ∧ Below W.heap.size W w') :
    Calls Tryz.prog 40 #[.int .i64 op, numA false f s A n c, numA false f0 s' A' n' c'] w (RetWR w op x y) := by
  by_cases h0 : op = 0
  · subst h0; exact rtw_quo f f0 s A n c s' A' n' c' x y w hx hy nx ny
  by_cases h1 : op = 1
  · subst h1; exact rtw_rem f f0 s A n c s' A' n' c' x y w hx hy nx ny
  by_cases h2 : op = 2
  · subst h2; exact rtw_mod f f0 s A n c s' A' n' c' x y w hx hy nx ny
  by_cases h3 : op = 3
  · subst h3; exact rtw_gcd f f0 s A n c s' A' n' c' x y w hx hy nx ny
  by_cases h4 : op = 4
  · subst h4; exact rtw_pow f f0 s A n c s' A' n' c' x y w hx hy nx ny hn
  refine (rtw_none op false false f f0 s A n c s' A' n' c' w ?_).mono fun e w' ⟨h5, h6⟩ => ⟨false, none, 0, 0, 0, 41, h5, intR_nil _, .inr (.inr (.inr (.inr (.inr ⟨⟨h0, h1, h2, h3, h4⟩, rfl, rfl⟩)))), h6⟩
  simp only [Bool.or_false, Bool.or_eq_true, decide_eq_true_eq]
  omega

set_option maxRecDepth 10000000 in
set_option maxHeartbeats 4000000 in
/-- one that can't be -/
theorem twholes_no (op : Int) (fl : Bool) (f : Nat) (s : Bool) (A : Option Addr) (n c : Nat) (fl' : Bool) (f' : Nat) (s' : Bool) (A' : Option Addr) (n' c' : Nat) (w : World) (hv : TV w)
    (hR : ∀ W, Below w.heap.size w W → Calls Tryz.prog 39 #[numA fl f s A n c, numA fl' f' s' A' n' c'] W fun e w' => e = .returned (.bool false) ∧ Below W.heap.size W w') :
    Calls Tryz.prog 8 #[.int .i64 op, numA fl f s A n c, numA fl' f' s' A' n' c'] w fun e w' => e = .returned (.bool true) ∧ Below w.heap.size w w' := by
  obtain ⟨W0, hW0, hb0, hO⟩ := two_num w fl f s A n c fl' f' s' A' n' c'
  have HB0 := Lib.hid hb0
  have O0 := Lib.hid hO
  have HW0 := Lib.hid hW0
  have AL := Lib.hid (talive_any W0 (hv.below hb0))
  have HR := Lib.hid hR
  clear hb0 hO hW0 hv hR
  go_enter Tryz.func8, Tryz.ntmps8
  go_wp2_with (fail)
  rw [HW0.out]
  refine AL.out.mono ?_
  rintro e w1 ⟨rfl, hb1⟩
  have O1 := Lib.hid (O0.out.below hb1)
  have HB1 := Lib.hid (bel_trans (B := w.heap.size) HB0.out hb1)
  clear hb1
  obtain ⟨p0, p1, p2, p3, -, -, -, -, pl⟩ := O1.out.nx0.facts
  obtain ⟨q0, q1, q2, q3, -, -, -, -, ql⟩ := O1.out.tl.nx0.facts
  go_wp2_with (fail)
  refine (HR.out _ HB1.out).mono ?_
  rintro e w2 ⟨rfl, hb2⟩
  have HB2 := Lib.hid (bel_trans (B := w.heap.size) HB1.out hb2)
  clear hb2 p0 p1 p2 p3 pl q0 q1 q2 q3 ql
  go_wp2_with (fail)
  go_ret
  exact ⟨rfl, HB2.out⟩

set_option maxRecDepth 10000000 in
set_option maxHeartbeats 4000000 in
/-- too long -/
theorem twholes_long (op : Int) (fl : Bool) (f : Nat) (s : Bool) (A : Option Addr) (n c : Nat) (fl' : Bool) (f' : Nat) (s' : Bool) (A' : Option Addr) (n' c' : Nat) (w : World) (hv : TV w) (hl : 8 < n ∨ 8 < n')
    (hR : ∀ W, Below w.heap.size w W → Calls Tryz.prog 39 #[numA fl f s A n c, numA fl' f' s' A' n' c'] W fun e w' => e = .returned (.bool true) ∧ Below W.heap.size W w') :
    Calls Tryz.prog 8 #[.int .i64 op, numA fl f s A n c, numA fl' f' s' A' n' c'] w fun e w' => e = .returned (.bool true) ∧ Below w.heap.size w w' := by
  obtain ⟨W0, hW0, hb0, hO⟩ := two_num w fl f s A n c fl' f' s' A' n' c'
  have HB0 := Lib.hid hb0
  have O0 := Lib.hid hO
  have HW0 := Lib.hid hW0
  have AL := Lib.hid (talive_any W0 (hv.below hb0))
  have HR := Lib.hid hR
  have HL := Lib.hid hl
  clear hb0 hO hW0 hv hR hl
  go_enter Tryz.func8, Tryz.ntmps8
  go_wp2_with (fail)
  rw [HW0.out]
  refine AL.out.mono ?_
  rintro e w1 ⟨rfl, hb1⟩
  have O1 := Lib.hid (O0.out.below hb1)
  have HB1 := Lib.hid (bel_trans (B := w.heap.size) HB0.out hb1)
  clear hb1
  obtain ⟨p0, p1, p2, p3, -, -, -, -, pl⟩ := O1.out.nx0.facts
  obtain ⟨q0, q1, q2, q3, -, -, -, -, ql⟩ := O1.out.tl.nx0.facts
  go_wp2_with (fail)
  refine (HR.out _ HB1.out).mono ?_
  rintro e w2 ⟨rfl, hb2⟩
  have O2 := Lib.hid (O1.out.below hb2)
  have HB2 := Lib.hid (bel_trans (B := w.heap.size) HB1.out hb2)
  clear hb2 p0 p1 p2 p3 pl q0 q1 q2 q3 ql
  obtain ⟨p0, p1, p2, p3, -, -, -, -, pl⟩ := O2.out.nx0.facts
  obtain ⟨q0, q1, q2, q3, -, -, -, -, ql⟩ := O2.out.tl.nx0.facts
  by_cases h1 : 8 < n
  · have d1 : decide ((8 : Int) < (n : Int)) = true := decide_eq_true (by omega)
    have d2 : decide (8 < n) = true := decide_eq_true h1
    clear h1
    go_wp2_with (fail)
    go_ret
    exact ⟨rfl, HB2.out⟩
  · have h2 : 8 < n' := HL.out.resolve_left h1
    have d1 : decide ((8 : Int) < (n : Int)) = false := decide_eq_false (by omega)
    have d2 : decide (8 < n) = false := decide_eq_false h1
    have d3 : decide ((8 : Int) < (n' : Int)) = true := decide_eq_true (by omega)
    have d4 : decide (8 < n') = true := decide_eq_true h2
    clear h1 h2
    go_wp2_with (fail)
    go_ret
    exact ⟨rfl, HB2.out⟩

set_option maxRecDepth 10000000 in
set_option maxHeartbeats 4000000 in
theorem twholes_yes (op : Int) (fl : Bool) (f : Nat) (s : Bool) (A : Option Addr) (n c : Nat) (fl' : Bool) (f' : Nat) (s' : Bool) (A' : Option Addr) (n' c' : Nat) (z er : Int) (w : World) (hv : TV w) (hl : n ≤ 8) (hl' : n' ≤ 8) (nz : ¬ BigI z)
    (hR : ∀ W, Below w.heap.size w W → Calls Tryz.prog 39 #[numA fl f s A n c, numA fl' f' s' A' n' c'] W fun e w' => e = .returned (.bool true) ∧ Below W.heap.size W w')
    (hP : ∀ W, Below w.heap.size w W → Calls Tryz.prog 32 #[.int .i64 op, numA fl f s A n c, numA fl' f' s' A' n' c'] W fun e w' => ∃ s1 A1 n1 c1, e = .returned (.tuple #[numA false 0 s1 A1 n1 c1, .int .i64 er]) ∧ IntV w' (.agg #[.bool s1, .slice A1 n1 c1]) z ∧ Below W.heap.size W w')
    (hQ : ∀ W, Below w.heap.size w W → Calls Tryz.prog 40 #[.int .i64 op, numA fl f s A n c, numA fl' f' s' A' n' c'] W fun e w' => ∃ s1 A1 n1 c1, e = .returned (.tuple #[numA false 0 s1 A1 n1 c1, .int .i64 er]) ∧ IntR w' (.agg #[.bool s1, .slice A1 n1 c1]) z ∧ Below W.heap.size W w') :
    Calls Tryz.prog 8 #[.int .i64 op, numA fl f s A n c, numA fl' f' s' A' n' c'] w fun e w' => e = .returned (.bool true) ∧ Below w.heap.size w w' := by
  obtain ⟨W0, hW0, hb0, hO⟩ := two_num w fl f s A n c fl' f' s' A' n' c'
  have HB0 := Lib.hid hb0
  have O0 := Lib.hid hO
  have HW0 := Lib.hid hW0
  have AL := Lib.hid (talive_any W0 (hv.below hb0))
  have HR := Lib.hid hR
  have HP := Lib.hid hP
  have HQ := Lib.hid hQ
  have NZ := Lib.hid nz
  have d1 : decide ((8 : Int) < (n : Int)) = false := decide_eq_false (by omega)
  have d2 : decide (8 < n) = false := decide_eq_false (by omega)
  have d3 : decide ((8 : Int) < (n' : Int)) = false := decide_eq_false (by omega)
  have d4 : decide (8 < n') = false := decide_eq_false (by omega)
  clear hb0 hO hW0 hv hR hP hQ nz hl hl'
  go_enter Tryz.func8, Tryz.ntmps8
  go_wp2_with (fail)
  rw [HW0.out]
  refine AL.out.mono ?_
  rintro e w1 ⟨rfl, hb1⟩
  have O1 := Lib.hid (O0.out.below hb1)
  have HB1 := Lib.hid (bel_trans (B := w.heap.size) HB0.out hb1)
  clear hb1
  obtain ⟨p0, p1, p2, p3, -, -, -, -, pl⟩ := O1.out.nx0.facts
  obtain ⟨q0, q1, q2, q3, -, -, -, -, ql⟩ := O1.out.tl.nx0.facts
  go_wp2_with (fail)
  refine (HR.out _ HB1.out).mono ?_
  rintro e w2 ⟨rfl, hb2⟩
  have O2 := Lib.hid (O1.out.below hb2)
  have HB2 := Lib.hid (bel_trans (B := w.heap.size) HB1.out hb2)
  clear hb2 p0 p1 p2 p3 pl q0 q1 q2 q3 ql
  obtain ⟨p0, p1, p2, p3, -, -, -, -, pl⟩ := O2.out.nx0.facts
  obtain ⟨q0, q1, q2, q3, -, -, -, -, ql⟩ := O2.out.tl.nx0.facts
  go_wp2_with (fail)
  refine (HP.out _ HB2.out).mono ?_
  rintro e w3 ⟨s3, A3, n3, c3, rfl, hv3, hb3⟩
  have hbk := bel_trans (B := w.heap.size) HB2.out hb3
  have O3 := Lib.hid ((O2.out.below hb3).new (numO false 0 s3 A3 n3 c3))
  have HB3 := Lib.hid (hbk.alloc hbk.size (numO false 0 s3 A3 n3 c3))
  have V3 := Lib.hid (hv3.alloc (numO false 0 s3 A3 n3 c3))
  clear p0 p1 p2 p3 pl q0 q1 q2 q3 ql
  obtain ⟨p0, p1, p2, p3, -, -, -, -, pl⟩ := (O2.out.below hb3).nx0.facts
  obtain ⟨q0, q1, q2, q3, -, -, -, -, ql⟩ := (O2.out.below hb3).tl.nx0.facts
  clear hb3 hbk hv3
  go_wp2_with (fail)
  refine (HQ.out _ HB3.out).mono ?_
  rintro e w4 ⟨s4, A4, n4, c4, rfl, hv4, hb4⟩
  have hbk := bel_trans (B := w.heap.size) HB3.out hb4
  have HB4 := Lib.hid (hbk.alloc hbk.size (numO false 0 s4 A4 n4 c4))
  have V34 := Lib.hid ((V3.out.keep hb4).alloc (numO false 0 s4 A4 n4 c4))
  have V4 := Lib.hid (hv4.alloc (numO false 0 s4 A4 n4 c4))
  have S1 := Lib.hid (rnsame_i 0 0 s3 A3 n3 c3 s4 A4 n4 c4 z _ V34.out.toR V4.out NZ.out)
  clear p0 p1 p2 p3 pl q0 q1 q2 q3 ql
  obtain ⟨p0, p1, p2, p3, -, -, -, -, pl⟩ := (O3.out.below hb4).nx0.facts
  clear hb4 hbk hv4
  go_wp2_with (fail)
  refine S1.out.mono ?_
  rintro e w5 ⟨rfl, hb5⟩
  have HB5 := Lib.hid (bel_trans (B := w.heap.size) HB4.out hb5)
  clear hb5 p0 p1 p2 p3 pl
  have hee : (er == er) = true := by rw [beq_iff_eq]
  go_wp2_with (fail)
  go_ret
  exact ⟨rfl, HB5.out⟩

end LM
end Go.Proofs.YtpaefbojilnnnaaGreatDoor

namespace Go.Proofs.YtpaefbojilnnnaaGreatDoor
open Go Go.RowKit Go.ChangeShapes Go.WideShapes Go.ChangeAt
namespace LM
set_option linter.unusedVariables false

theorem AnsW.ex (op x y : Int) : ∃ z e, AnsW op x y z e := by
  by_cases h0 : op = 0
  · by_cases hy : y = 0
    · exact ⟨0, 12, .inl ⟨h0, 0, .inl ⟨hy, rfl, rfl, rfl⟩⟩⟩
    · exact ⟨_, _, .inl ⟨h0, _, .inr ⟨hy, rfl, rfl, rfl⟩⟩⟩
  by_cases h1 : op = 1
  · by_cases hy : y = 0
    · exact ⟨0, 12, .inr (.inl ⟨h1, 0, .inl ⟨hy, rfl, rfl, rfl⟩⟩)⟩
    · exact ⟨_, _, .inr (.inl ⟨h1, _, .inr ⟨hy, rfl, rfl, rfl⟩⟩)⟩
  by_cases h2 : op = 2
  · by_cases hy : y = 0
    · exact ⟨0, 12, .inr (.inr (.inl ⟨h2, .inl ⟨hy, rfl, rfl⟩⟩))⟩
    · exact ⟨_, _, .inr (.inr (.inl ⟨h2, .inr ⟨hy, rfl, rfl⟩⟩))⟩
  by_cases h3 : op = 3
  · exact ⟨_, _, .inr (.inr (.inr (.inl ⟨h3, rfl, rfl⟩)))⟩
  by_cases h4 : op = 4
  · exact ⟨_, _, .inr (.inr (.inr (.inr (.inl ⟨h4, rfl, rfl⟩))))⟩
  exact ⟨_, _, .inr (.inr (.inr (.inr (.inr ⟨⟨h0, h1, h2, h3, h4⟩, rfl, rfl⟩))))⟩

theorem wholes_walk (op : Int) (fl : Bool) (f : Nat) (s : Bool) (A : Option Addr) (ca : Nat) (xs : List Nat) (fl' : Bool) (f' : Nat) (t : Bool) (B : Option Addr) (cb : Nat) (ys : List Nat) (w : World) (hv : TV w)
    (ha : Rd w A xs) (hb : Rd w B ys) (hx : Lm xs) (hy : Lm ys) (hca : xs.length ≤ ca) (hcb : ys.length ≤ cb) (hcam : ca ≤ 9223372036854775807) (hcbm : cb ≤ 9223372036854775807) (hna : A = none → xs.length = 0 ∧ ca = 0) (hnb : B = none → ys.length = 0 ∧ cb = 0) :
    Calls Tryz.prog 8 #[.int .i64 op, numA fl f s A xs.length ca, numA fl' f' t B ys.length cb] w fun e w' => e = .returned (.bool true) ∧ Below w.heap.size w w' := by
  have hR : ∀ W, Below w.heap.size w W → Calls Tryz.prog 39 #[numA fl f s A xs.length ca, numA fl' f' t B ys.length cb] W fun e w' => e = .returned (.bool (rightN fl f s xs && rightN fl' f' t ys)) ∧ Below W.heap.size W w' := fun W hW =>
    right2_any fl f s A xs.length ca fl' f' t B ys.length cb _ _ W (fun W' h' => rnright_any fl f s A ca xs W' ((ha.below hW).below h') hx hca hcam hna) (fun W' h' => rnright_any fl' f' t B cb ys W' ((hb.below hW).below h') hy hcb hcbm hnb)
  by_cases hr : (rightN fl f s xs && rightN fl' f' t ys) = true
  · rw [hr] at hR
    by_cases hl : 8 < xs.length ∨ 8 < ys.length
    · exact twholes_long op fl f s A xs.length ca fl' f' t B ys.length cb w hv hl hR
    · have hl1 : xs.length ≤ 8 := by omega
      have hl2 : ys.length ≤ 8 := by omega
      have flo : (fl || fl') = true → Calls Tryz.prog 8 #[.int .i64 op, numA fl f s A xs.length ca, numA fl' f' t B ys.length cb] w fun e w' => e = .returned (.bool true) ∧ Below w.heap.size w w' := fun hf => by
        refine twholes_yes op fl f s A xs.length ca fl' f' t B ys.length cb 0 41 w hv hl1 hl2 zero_fits hR (fun W hW => ?_) (fun W hW => ?_)
        · cases fl
          · cases fl'
            · cases hf
            · exact (twhole_flo op f f' s A xs.length ca t B ys.length cb W).mono fun e w' ⟨h1, h2⟩ => ⟨_, _, _, _, h1, intV_zero _, h2⟩
          · exact (twhole_flo1 op fl' f f' s A xs.length ca t B ys.length cb W).mono fun e w' ⟨h1, h2⟩ => ⟨_, _, _, _, h1, intV_zero _, h2⟩
        · refine (rtw_none op fl fl' f f' s A xs.length ca t B ys.length cb W ?_).mono fun e w' ⟨h1, h2⟩ => ⟨_, _, _, _, h1, intR_nil _, h2⟩
          rw [Bool.or_assoc, hf, Bool.or_true]
      cases fl
      · cases fl'
        · have hr1 : rightN false f s xs = true := by revert hr; cases rightN false f s xs <;> simp
          have hr2 : rightN false f' t ys = true := by revert hr; cases rightN false f' t ys <;> simp
          unfold rightN at hr1 hr2
          rw [if_neg (by decide), Bool.and_eq_true, decide_eq_true_eq] at hr1 hr2
          obtain ⟨rfl, rx⟩ := hr1
          obtain ⟨rfl, ry⟩ := hr2
          obtain ⟨z, er, hA⟩ := AnsW.ex op (sg s (val xs)) (sg t (val ys))
          have nx := (intV_of rx ha hx hca hcam).2
          have ny := (intV_of ry hb hy hcb hcbm).2
          refine twholes_yes op false 0 s A xs.length ca false 0 t B ys.length cb z er w hv hl1 hl2 (hA.fit nx ny) hR (fun W hW => ?_) (fun W hW => ?_)
          · refine (tw_any op 0 0 s A xs.length ca t B ys.length cb _ _ W (intV_of rx (ha.below hW) hx hca hcam).1 (intV_of ry (hb.below hW) hy hcb hcbm).1 nx ny).mono ?_
            rintro e w' ⟨s1, A1, n1, c1, z', er', h1, h2, h3, h4⟩
            obtain ⟨rfl, rfl⟩ := hA.same h3
            exact ⟨_, _, _, _, h1, h2, h4⟩
          · refine (rtw_any op 0 0 s A xs.length ca t B ys.length cb _ _ W (intV_of rx (ha.below hW) hx hca hcam).1.toR (intV_of ry (hb.below hW) hy hcb hcbm).1.toR nx ny (fun W' h' => rsmall_right t B cb ys W' ((hb.below hW).below h') hy ry)).mono ?_
            rintro e w' ⟨s1, A1, n1, c1, z', er', h1, h2, h3, h4⟩
            obtain ⟨rfl, rfl⟩ := hA.same h3
            exact ⟨_, _, _, _, h1, h2, h4⟩
        · exact flo rfl
      · exact flo rfl
  · have hr0 : (rightN fl f s xs && rightN fl' f' t ys) = false := by simpa using hr
    rw [hr0] at hR
    exact twholes_no op fl f s A xs.length ca fl' f' t B ys.length cb w hv hR

/-! a number that came in -/
theorem trod_flt {H : Type} {enc : TypeId × Value → H} {P : Program} {w : World} {base : Nat} {spare : Nat → Bool} {held : Bool} {fuel : Nat} {t : TypeId} {cs : List Value} {x : DataW H × List MemPlace} (ht : P.underlying t = some (.float .f64)) (h : DataW.trod enc P w base spare held fuel t cs = some x) : ∃ n, cs = [.float .f64 n] ∧ n < 18446744073709551616 := by
  cases fuel with
  | zero => simp [DataW.trod] at h
  | succ n =>
    unfold DataW.trod at h
    rw [ht] at h
    split at h <;> simp_all
    rename_i hk
    subst hk
    have h3 := h.1.2
    unfold Lit.wf at h3
    simpa using h3

set_option maxRecDepth 1000000 in
theorem open_num {H : Type} {enc : TypeId × Value → H} {w : World} {base b0 : Nat} {held : Bool} {r : Reach} {v : Value} {d : DataW H} {p : List MemPlace}
    (hv : Value.okWide Tryz.prog w r b0 51 v) (h : DataW.Trod enc Tryz.prog w base (fun _ => true) held 51 v d p) :
    ∃ fl f s A c xs, v = numA fl f s A (List.length xs) c ∧ f < 18446744073709551616 ∧ Lm xs ∧ Rd w A xs ∧ xs.length ≤ c ∧ c ≤ 9223372036854775807 ∧ (A = none → xs.length = 0 ∧ c = 0) := by
  obtain ⟨cs, rfl, hsz⟩ := okWide_struct Tryz.underlying51 hv
  obtain ⟨c0, c1, c2, c3, rfl⟩ := Joins.array4 (hsz.trans (by kernel_rfl))
  obtain ⟨fuel, hf⟩ := h
  obtain ⟨y0, y1, y2, n, hx, _, h0, h1, h2⟩ := Go.Deep.trod_struct3 Tryz.underlying51 hf
  have g0 : DataW.trod enc Tryz.prog w base (fun _ => true) held n 4 [c0] = some y0 := h0
  have g1 : DataW.trod enc Tryz.prog w base (fun _ => true) held n 22 [c1] = some y1 := h1
  have g2 : DataW.trod enc Tryz.prog w base (fun _ => true) held n 38 [c2, c3] = some y2 := h2
  obtain ⟨fl, hb, -⟩ := DataW.trod_bool Tryz.underlying4 g0
  obtain ⟨f, hff, hfl⟩ := trod_flt Tryz.underlying22 g1
  obtain ⟨z0, z1, n', -, -, k0, k1⟩ := trod_struct2 Tryz.underlying38 g2
  have e0 : DataW.trod enc Tryz.prog w base (fun _ => true) held n' 4 [c2] = some z0 := k0
  have e1 : DataW.trod enc Tryz.prog w base (fun _ => true) held n' 36 [c3] = some z1 := k1
  obtain ⟨s, hs, -⟩ := DataW.trod_bool Tryz.underlying4 e0
  obtain rfl : c0 = .bool fl := by simpa using hb
  obtain rfl : c1 = .float .f64 f := by simpa using hff
  obtain rfl : c2 = .bool s := by simpa using hs
  rcases open_ints Tryz.underlying36 Tryz.underlying133 (by kernel_rfl) e1 with ⟨hcs, _⟩ | ⟨x, l, c, zs, hcs, _, hl, hm, hz, _, hcell, hwz⟩
  · obtain rfl : c3 = .slice none 0 0 := by simpa using hcs
    exact ⟨fl, f, s, none, 0, [], rfl, hfl, Lm.nil, Rd.nil, Nat.le_refl _, by decide, fun _ => ⟨rfl, rfl⟩⟩
  · obtain rfl : c3 = .slice (some x) l c := by simpa using hcs
    obtain ⟨xs, rfl, hx, ha, hca, hcm, hn⟩ := open_row (w := w) (a := some x) (len := l) (cap := c) (zs := zs) (.inr ⟨_, rfl, hl, hm, by simpa using hz, hcell, hwz⟩)
    exact ⟨fl, f, s, some x, c, xs, rfl, hfl, hx, ha, hca, hcm, hn⟩

end LM
end Go.Proofs.YtpaefbojilnnnaaGreatDoor
