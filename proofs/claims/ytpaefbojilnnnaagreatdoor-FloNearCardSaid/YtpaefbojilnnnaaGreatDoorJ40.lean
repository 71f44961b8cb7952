/- The walk of the document's Pow. -/
import Derived.Test.YtpaefbojilnnnaaGreatDoorJ14
import Derived.Test.YtpaefbojilnnnaaGreatDoorJ26
import Derived.Test.YtpaefbojilnnnaaGreatDoorJ29
import Derived.Deep.RegionHeld3
import Derived.WalkMore
import Derived.ScopeJumps
import Derived.Deep.LoopGhost
import Derived.Deep.QuietTactic
import Derived.BigQuiet
import Derived.Test.YtpaefbojilnnnaaGreatDoorJ31
import Derived.Test.YtpaefbojilnnnaaGreatDoorJ49
namespace Go.Proofs.YtpaefbojilnnnaaGreatDoor
open Go Go.RowKit
namespace LM
set_option linter.unusedVariables false

/-- a number's block -/
def Nx (w : World) (g : Nat) (fl : Bool) (f : Nat) (s : Bool) (A : Option Addr) (n c : Nat) : Prop := w.heap[g]? = some (.cells #[.bool fl, .float .f64 f, .bool s, .slice A n c] 51 (0, 0))
section
variable {w w' w2 : World} {g B : Nat} {fl : Bool} {f : Nat} {s : Bool} {A : Option Addr} {n c : Nat}
theorem Nx.lt (h : Nx w g fl f s A n c) : g < w.heap.size := by
  rcases Nat.lt_or_ge g w.heap.size with hlt | hge
  · exact hlt
  · unfold Nx at h; rw [Array.getElem?_eq_none hge] at h; cases h
theorem Nx.facts (h : Nx w g fl f s A n c) :
    w.cell? ⟨g, 0, none⟩ = some (.bool fl) ∧ w.cell? ⟨g, 1, none⟩ = some (.float .f64 f) ∧ w.cell? ⟨g, 2, none⟩ = some (.bool s) ∧ w.cell? ⟨g, 3, none⟩ = some (.slice A n c) ∧
    w.frozen? ⟨g, 0, none⟩ = false ∧ w.frozen? ⟨g, 1, none⟩ = false ∧ w.frozen? ⟨g, 2, none⟩ = false ∧ w.frozen? ⟨g, 3, none⟩ = false ∧ g < w.heap.size := by
  have hl := h.lt
  unfold Nx at h
  exact ⟨by simp [World.cell?, h], by simp [World.cell?, h], by simp [World.cell?, h], by simp [World.cell?, h], by simp [World.frozen?, h], by simp [World.frozen?, h], by simp [World.frozen?, h], by simp [World.frozen?, h], hl⟩
theorem Nx.keep (h : Nx w g fl f s A n c) (hb : Below B w w') (hg : g < B) : Nx w' g fl f s A n c := (hb.block _ hg).trans h
theorem Nx.below (h : Nx w g fl f s A n c) (hb : Below w.heap.size w w') : Nx w' g fl f s A n c := h.keep hb h.lt
theorem Nx.new (w : World) (fl : Bool) (f : Nat) (s : Bool) (A : Option Addr) (n c : Nat) : Nx (w.alloc (.cells #[.bool fl, .float .f64 f, .bool s, .slice A n c] 51)) w.heap.size fl f s A n c := by
  unfold Nx World.alloc
  simp
theorem Nx.alloc (h : Nx w g fl f s A n c) (o : Obj) : Nx (w.alloc o) g fl f s A n c := (Below.heap_alloc w o _ h.lt).trans h
theorem Nx.drew (h : Nx w g fl f s A n c) : Nx w.drew g fl f s A n c := h
theorem Nx.drewN (h : Nx w g fl f s A n c) (k : Nat) : Nx (w.drewN k) g fl f s A n c := h
theorem Nx.set (h : Nx w g fl f s A n c) {p : Addr} (v : Value) (hp : g ≠ p.block) : Nx (w.setCell p v) g fl f s A n c := (heap_setCell_other w p g v hp).trans h
theorem Nx.stored (h : Nx w g fl f s A n c) (fl' : Bool) (f' : Nat) (s' : Bool) (A' : Option Addr) (n' c' : Nat) :
    Nx ((((w.setCell ⟨g, 0, none⟩ (.bool fl')).setCell ⟨g, 1, none⟩ (.float .f64 f')).setCell ⟨g, 2, none⟩ (.bool s')).setCell ⟨g, 3, none⟩ (.slice A' n' c')) g fl' f' s' A' n' c' := by
  have h1 := heap_setCell_same w g 0 _ _ (.bool fl') h
  have h2 := heap_setCell_same _ g 1 _ _ (.float .f64 f') h1
  have h3 := heap_setCell_same _ g 2 _ _ (.bool s') h2
  have h4 := heap_setCell_same _ g 3 _ _ (.slice A' n' c') h3
  exact h4.trans rfl
theorem Rd.offNx {A' : Option Addr} {xs : List Nat} (h : Rd w A' xs) (hb : Nx w g fl f s A n c) (hx : 0 < xs.length) : Off A' g := by
  intro ad e e2
  obtain ⟨k, off, e3, hlt, hc⟩ := h hx
  rw [e3] at e
  injection e with e
  subst e
  obtain rfl : k = g := e2
  have h0 := hc 0 hx
  unfold Nx at hb
  simp only [World.cell?, hb] at h0
  have : off = 0 ∨ off = 1 ∨ off = 2 ∨ off = 3 ∨ 4 ≤ off := by omega
  rcases this with rfl | rfl | rfl | rfl | h2
  · simp at h0
  · simp at h0
  · simp at h0
  · simp at h0
  · rw [Array.getElem?_eq_none (by simp; omega)] at h0
    simp at h0
/-- four cells of a number's block are stored -/
abbrev set4 (w : World) (g : Nat) (a b d e : Value) : World := (((w.setCell ⟨g, 0, none⟩ a).setCell ⟨g, 1, none⟩ b).setCell ⟨g, 2, none⟩ d).setCell ⟨g, 3, none⟩ e
theorem Rd.stored4 {A' : Option Addr} {xs : List Nat} (h : Rd w A' xs) (hb : Nx w g fl f s A n c) (a b d e : Value) : Rd (set4 w g a b d e) A' xs := fun hx =>
  ((((h.setCell (p := ⟨g, 0, none⟩) (h.offNx hb hx) a).setCell (p := ⟨g, 1, none⟩) (h.offNx hb hx) b).setCell (p := ⟨g, 2, none⟩) (h.offNx hb hx) d).setCell (p := ⟨g, 3, none⟩) (h.offNx hb hx) e) hx
theorem IntV.stored4 {v : Value} {z : Int} (h : IntV w v z) (hb : Nx w g fl f s A n c) (a b d e : Value) : IntV (set4 w g a b d e) v z := by
  obtain ⟨A, c, r, e, h1, h2, h3, h4, h5⟩ := h
  exact ⟨A, c, r, e, h1, h2, h3.stored4 hb _ _ _ _, h4, h5⟩
theorem IntR.stored4 {v : Value} {z : Int} (h : IntR w v z) (hb : Nx w g fl f s A n c) (a b d e : Value) : IntR (set4 w g a b d e) v z := by
  obtain ⟨A, c, r, e, h3, h4, h5⟩ := h
  exact ⟨A, c, r, e, h3.stored4 hb _ _ _ _, h4, h5⟩
theorem below_stored4 (h : Below B w w2) (hg : B ≤ g) (a b d e : Value) : Below B w (set4 w2 g a b d e) :=
  (((h.setCell (p := ⟨g, 0, none⟩) hg a).setCell (p := ⟨g, 1, none⟩) hg b).setCell (p := ⟨g, 2, none⟩) hg d).setCell (p := ⟨g, 3, none⟩) hg e
/-- the world behind a store into a number's variable, under a name of its own -/
theorem stored_num (Y : Nx w2 g fl f s A n c) (hb : Below B w w2) (hg : B ≤ g) (fl' : Bool) (f' : Nat) (s' : Bool) (A' : Option Addr) (n' c' : Nat) :
    ∃ W, (((w2.setCell ⟨g, 0, none⟩ (.bool fl')).setCell ⟨g, 1, none⟩ (.float .f64 f')).setCell ⟨g, 2, none⟩ (.bool s')).setCell ⟨g, 3, none⟩ (.slice A' n' c') = W ∧ Nx W g fl' f' s' A' n' c' ∧ Below B w W ∧ (∀ v z, IntV w2 v z → IntV W v z) ∧ (∀ v z, IntR w2 v z → IntR W v z) :=
  ⟨_, rfl, Y.stored _ _ _ _ _ _, below_stored4 hb hg _ _ _ _, fun _ _ h => h.stored4 Y _ _ _ _, fun _ _ h => h.stored4 Y _ _ _ _⟩
end

theorem run_store_flt (P : Program) (w : World) (a : Addr) (m : Mode) (k : FloatKind) (b : Nat) : (store a (.float k b) m).run P w = stored P w a (.float k b) m := run_store P w a _ m rfl
attribute [local go_sem] run_store_flt

/-- what comes out of a call that gives an exact number -/
def RetN (w : World) (z : Int) (e : Ending) (w' : World) : Prop := ∃ s A n c, e = .returned (.agg #[.bool false, .float .f64 0, .bool s, .slice A n c]) ∧ IntV w' (.agg #[.bool s, .slice A n c]) z ∧ Below w.heap.size w w'

set_option maxRecDepth 100000 in
set_option maxHeartbeats 2000000 in
theorem twhole_any (s : Bool) (A : Option Addr) (n c : Nat) (w : World) :
    Calls Tryz.prog 87 #[.agg #[.bool s, .slice A n c]] w fun e w' => e = .returned (.agg #[.bool false, .float .f64 0, .bool s, .slice A n c]) ∧ Below w.heap.size w w' ∧ (∀ v z, IntV w v z → IntV w' v z) := by
  go_enter Tryz.func87, Tryz.ntmps87
  go_wp2_with (fail)
  refine bodyPost_ret (v := .agg #[.bool false, .float .f64 0, .bool s, .slice A n c]) (by simp [results, Tryz.results87, go_sem]) rfl ?_
  exact ⟨rfl, ((Below.refl _ w).alloc (Nat.le_refl _) _).alloc (by simp) _, fun v z h => (h.alloc _).alloc _⟩

end LM
end Go.Proofs.YtpaefbojilnnnaaGreatDoor

namespace Go.Proofs.YtpaefbojilnnnaaGreatDoor
open Go Go.RowKit
namespace LM
set_option linter.unusedVariables false
attribute [local go_sem] run_store_flt

set_option maxRecDepth 100000 in
set_option maxHeartbeats 2000000 in
theorem tint_any (z : Int) (h1 : -9223372036854775808 ≤ z) (h2 : z ≤ 9223372036854775807) (w : World) :
    Calls Tryz.prog 33 #[.int .i64 z] w (RetN w z) := by
  have hb0 : Below w.heap.size w (w.alloc (.cells #[.bool false, .float .f64 0, .bool false, .slice none 0 0] 51)) := (Below.refl _ w).alloc (Nat.le_refl _) _
  have Y0 := Lib.hid (Nx.new w false 0 false none 0 0)
  have HB0 := Lib.hid hb0
  have E1 := Lib.hid fun W => eof_int z h1 h2 W
  have W1 := Lib.hid twhole_any
  clear hb0
  go_enter Tryz.func33, Tryz.ntmps33
  go_wp2_with (fail)
  refine (E1.out _).mono ?_
  intro e w1 hr
  obtain ⟨s1, A1, n1, c1, rfl, hv1, hb1⟩ := hr.gen
  have Y1 := Lib.hid (Y0.out.below hb1)
  have HB1 := Lib.hid (bel_trans (B := w.heap.size) HB0.out hb1)
  have HV1 := Lib.hid hv1
  clear hr hb1 hv1
  go_wp2_with (fail)
  refine (W1.out _ _ _ _ _).mono ?_
  rintro e w2 ⟨rfl, hb2, hv2⟩
  have Y2 := Y1.out.below hb2
  have hbk := bel_trans (B := w.heap.size) HB1.out hb2
  obtain ⟨W, hW, ZR, hbW, hvW, -⟩ := stored_num Y2 hbk (by omega) false 0 s1 A1 n1 c1
  obtain ⟨z0, z1, z2, z3, -, -, -, -, zl⟩ := ZR.facts
  obtain ⟨y0, y1, y2, y3, y4, y5, y6, y7, yl⟩ := Y2.facts
  have HBW := Lib.hid hbW
  have HVW := Lib.hid (hvW _ _ (hv2 _ _ HV1.out))
  clear hb2 hv2 hbk hbW hvW ZR Y2
  go_wp2_with (fail)
  first | rw [hW] | skip
  refine bodyPost_ret (v := .agg #[.bool false, .float .f64 0, .bool s1, .slice A1 n1 c1]) (by simp [results, Tryz.results33, go_sem, z0, z1, z2, z3]) rfl ?_
  exact ⟨s1, A1, n1, c1, rfl, HVW.out, HBW.out⟩

set_option maxRecDepth 100000 in
set_option maxHeartbeats 2000000 in
theorem tflo_any (f : Nat) (w : World) :
    Calls Tryz.prog 34 #[.float .f64 f] w fun e w' => e = .returned (.agg #[.bool true, .float .f64 f, .bool false, .slice none 0 0]) ∧ Below w.heap.size w w' := by
  go_enter Tryz.func34, Tryz.ntmps34
  go_wp2_with (fail)
  refine bodyPost_ret (v := .agg #[.bool true, .float .f64 f, .bool false, .slice none 0 0]) (by simp [results, Tryz.results34, go_sem]) rfl ?_
  exact ⟨rfl, (Below.refl _ w).alloc (Nat.le_refl _) _⟩

set_option maxRecDepth 100000 in
set_option maxHeartbeats 2000000 in
theorem tnothing_any (s : Bool) (A : Option Addr) (n c : Nat) (w : World) :
    Calls Tryz.prog 96 #[.agg #[.bool s, .slice A n c]] w fun e w' => e = .returned (.bool (decide (n = 0))) ∧ Below w.heap.size w w' := by
  have X0 := Bx.new w s A n c
  have hb0 : Below w.heap.size w (w.alloc (.cells #[.bool s, .slice A n c] 38)) := (Below.refl _ w).alloc (Nat.le_refl _) _
  obtain ⟨q0, q1, -, -, ql⟩ := X0.facts
  have HB0 := Lib.hid hb0
  have hd : ((n : Int) == 0) = decide (n = 0) := by
    rw [Bool.eq_iff_iff, beq_iff_eq, decide_eq_true_iff]; omega
  clear hb0 X0
  go_enter Tryz.func96, Tryz.ntmps96
  go_wp2_with (fail)
  go_ret
  exact ⟨rfl, HB0.out⟩

set_option maxRecDepth 100000 in
set_option maxHeartbeats 2000000 in
/-- of a floating one -/
theorem tfloating_f (f : Nat) (s : Bool) (A : Option Addr) (n c : Nat) (w : World) :
    Calls Tryz.prog 89 #[.agg #[.bool true, .float .f64 f, .bool s, .slice A n c]] w fun e w' => e = .returned (.float .f64 f) ∧ Below w.heap.size w w' := by
  have Y0 := Nx.new w true f s A n c
  have hb0 : Below w.heap.size w (w.alloc (.cells #[.bool true, .float .f64 f, .bool s, .slice A n c] 51)) := (Below.refl _ w).alloc (Nat.le_refl _) _
  obtain ⟨y0, y1, y2, y3, -, -, -, -, yl⟩ := Y0.facts
  have HB0 := Lib.hid hb0
  clear hb0 Y0
  go_enter Tryz.func89, Tryz.ntmps89
  go_wp2_with (fail)
  go_ret
  exact ⟨rfl, HB0.out⟩

set_option maxRecDepth 100000 in
set_option maxHeartbeats 2000000 in
/-- of an exact one -/
theorem tfloating_i (f f0 : Nat) (s : Bool) (A : Option Addr) (n c : Nat) (w : World)
    (hO : ∀ W, Below w.heap.size w W → Calls Tryz.prog 27 #[.agg #[.bool s, .slice A n c]] W fun e w' => e = .returned (.float .f64 f) ∧ Below W.heap.size W w') :
    Calls Tryz.prog 89 #[.agg #[.bool false, .float .f64 f0, .bool s, .slice A n c]] w fun e w' => e = .returned (.float .f64 f) ∧ Below w.heap.size w w' := by
  have Y0 := Nx.new w false f0 s A n c
  have hb0 : Below w.heap.size w (w.alloc (.cells #[.bool false, .float .f64 f0, .bool s, .slice A n c] 51)) := (Below.refl _ w).alloc (Nat.le_refl _) _
  obtain ⟨y0, y1, y2, y3, -, -, -, -, yl⟩ := Y0.facts
  have HB0 := Lib.hid hb0
  have HO := Lib.hid (hO _ hb0)
  clear hb0 Y0 hO
  go_enter Tryz.func89, Tryz.ntmps89
  go_wp2_with (fail)
  refine HO.out.mono ?_
  rintro e w1 ⟨rfl, hb1⟩
  go_wp2_with (fail)
  go_ret
  exact ⟨rfl, bel_trans (B := w.heap.size) HB0.out hb1⟩

end LM
end Go.Proofs.YtpaefbojilnnnaaGreatDoor

namespace Go.Proofs.YtpaefbojilnnnaaGreatDoor
open Go Go.RowKit
namespace LM
set_option linter.unusedVariables false
attribute [local go_sem] run_store_flt

/-- blocks that are known -/
def Obs (w : World) (L : List (Nat × Obj)) : Prop := ∀ q ∈ L, w.heap[q.1]? = some q.2
section
variable {w w' : World} {L : List (Nat × Obj)} {g : Nat} {o : Obj}
theorem Obs.nil : Obs w [] := fun q hq => by cases hq
theorem Obs.cons (h : w.heap[g]? = some o) (hs : Obs w L) : Obs w ((g, o) :: L) := fun q hq => by
  rcases List.mem_cons.1 hq with rfl | hq
  · exact h
  · exact hs q hq
theorem Obs.hd (h : Obs w ((g, o) :: L)) : w.heap[g]? = some o := h _ (List.mem_cons_self ..)
theorem Obs.tl {p : Nat × Obj} (h : Obs w (p :: L)) : Obs w L := fun q hq => h q (List.mem_cons_of_mem _ hq)
theorem Obs.below (h : Obs w L) (hb : Below w.heap.size w w') : Obs w' L := fun q hq => by
  have h1 := h q hq
  refine (hb.block q.1 ?_).trans h1
  rcases Nat.lt_or_ge q.1 w.heap.size with h2 | h2
  · exact h2
  · rw [Array.getElem?_eq_none h2] at h1; cases h1
theorem Obs.alloc (h : Obs w L) (x : Obj) : Obs (w.alloc x) L := fun q hq => by
  have h1 := h q hq
  refine (Below.heap_alloc w x _ ?_).trans h1
  rcases Nat.lt_or_ge q.1 w.heap.size with h2 | h2
  · exact h2
  · rw [Array.getElem?_eq_none h2] at h1; cases h1
theorem Obs.drew (h : Obs w L) : Obs w.drew L := h
theorem Obs.new (h : Obs w L) (x : Obj) : Obs (w.alloc x) ((w.heap.size, x) :: L) := Obs.cons (by unfold World.alloc; simp) (h.alloc x)
end
theorem Obs.set4 {w : World} {L : List (Nat × Obj)} {g : Nat} (h : Obs w L) (hg : ∀ q ∈ L, q.1 ≠ g) (a b d e : Value) : Obs (set4 w g a b d e) L := fun q hq =>
  (heap_setCell_other _ ⟨g, 3, none⟩ q.1 e (hg q hq)).trans ((heap_setCell_other _ ⟨g, 2, none⟩ q.1 d (hg q hq)).trans ((heap_setCell_other _ ⟨g, 1, none⟩ q.1 b (hg q hq)).trans ((heap_setCell_other w ⟨g, 0, none⟩ q.1 a (hg q hq)).trans (h q hq))))
theorem ob_cell {w : World} {g : Nat} {cs : Array Value} {T : TypeId} (h : w.heap[g]? = some (.cells cs T (0, 0))) (i : Nat) : w.cell? ⟨g, i, none⟩ = cs[i]? := by
  simp [World.cell?, h]
theorem ob_free {w : World} {g : Nat} {cs : Array Value} {T : TypeId} (h : w.heap[g]? = some (.cells cs T (0, 0))) (i : Nat) (hi : i < cs.size) : w.frozen? ⟨g, i, none⟩ = false := by
  simp [World.frozen?, h]

abbrev numO (fl : Bool) (f : Nat) (s : Bool) (A : Option Addr) (n c : Nat) : Obj := .cells #[.bool fl, .float .f64 f, .bool s, .slice A n c] 51 (0, 0)
abbrev numA (fl : Bool) (f : Nat) (s : Bool) (A : Option Addr) (n c : Nat) : Value := .agg #[.bool fl, .float .f64 f, .bool s, .slice A n c]

set_option maxRecDepth 100000 in
theorem tadd1_any (a b r : Nat) (w : World) (h : floatBits .add .f64 a b = some r) :
    Calls Tryz.prog 155 #[.float .f64 a, .float .f64 b] w fun e w' => e = .returned (.float .f64 r) ∧ w = w' := by
  have hop : ∀ t W, (binOp .add t (.float .f64 a) (.float .f64 b)).run Tryz.prog W = .ok (.float .f64 r) W := fun t W => run_float_arith W .add t .f64 _ _ _ h
  go_enter Tryz.func155, Tryz.ntmps155
  go_wp2
  go_ret
  exact ⟨rfl, rfl⟩

set_option maxRecDepth 100000 in
set_option maxHeartbeats 4000000 in
theorem tof_two (f0 f fa fb r : Nat) (s : Bool) (A : Option Addr) (n c : Nat) (s' : Bool) (A' : Option Addr) (n' c' : Nat) (w : World)
    (hO : ∀ W, Below w.heap.size w W → Calls Tryz.prog 27 #[.agg #[.bool s, .slice A n c]] W fun e w' => e = .returned (.float .f64 fa) ∧ Below W.heap.size W w')
    (hr : floatBits .add .f64 fa fb = some r) :
    Calls Tryz.prog 156 #[.agg #[.func (.func 153) #[] #[], .func (.func 155) #[] #[]], numA false f0 s A n c, numA true fb s' A' n' c'] w fun e w' =>
      e = .returned (.tuple #[numA true r false none 0 0, .int .i64 0]) ∧ Below w.heap.size w w' := by
  have FA := Lib.hid fun W (h : Below w.heap.size w W) => tfloating_i fa f0 s A n c W fun W' h' => hO W' (bel_trans (B := w.heap.size) h h')
  have FB := Lib.hid fun W => tfloating_f fb s' A' n' c' W
  have A1 := Lib.hid fun W => tadd1_any fa fb r W hr
  have F1 := Lib.hid tflo_any
  clear hO hr
  go_enter Tryz.func156, Tryz.ntmps156
  go_wp2_with (fail)
  generalize hW0 : ((((w.alloc (.cells #[.func (.func 153) #[] #[], .func (.func 155) #[] #[]] 146)).alloc (numO false f0 s A n c)).alloc (numO true fb s' A' n' c')).alloc (numO false 0 false none 0 0)) = W0
  have hO : Obs W0 [(w.heap.size + 1 + 1 + 1, numO false 0 false none 0 0), (w.heap.size + 1 + 1, numO true fb s' A' n' c'), (w.heap.size + 1, numO false f0 s A n c), (w.heap.size, .cells #[.func (.func 153) #[] #[], .func (.func 155) #[] #[]] 146 (0, 0))] := by
    rw [← hW0]
    have h := (((Obs.nil.new (w := w) (.cells #[.func (.func 153) #[] #[], .func (.func 155) #[] #[]] 146)).new (numO false f0 s A n c)).new (numO true fb s' A' n' c')).new (numO false 0 false none 0 0)
    simp only [World.size_alloc] at h
    exact h
  have hb0 : Below w.heap.size w W0 := by
    rw [← hW0]
    exact ((((Below.refl _ w).alloc (Nat.le_refl _) _).alloc (by simp) _).alloc (by simp; omega) _).alloc (by simp; omega) _
  have XS0 := Lib.hid hO.tl.drew
  have Y0 : Hid (Nx W0.drew (w.heap.size + 1 + 1 + 1) false 0 false none 0 0) := Lib.hid hO.hd
  have HB0 := Lib.hid hb0.drew
  have KS : Hid (∀ W, Obs W [(w.heap.size + 1 + 1, numO true fb s' A' n' c'), (w.heap.size + 1, numO false f0 s A n c), (w.heap.size, .cells #[.func (.func 153) #[] #[], .func (.func 155) #[] #[]] 146 (0, 0))] →
      W.cell? ⟨w.heap.size, 1, none⟩ = some (.func (.func 155) #[] #[]) ∧
      W.cell? ⟨w.heap.size + 1, 0, none⟩ = some (.bool false) ∧ W.cell? ⟨w.heap.size + 1, 1, none⟩ = some (.float .f64 f0) ∧ W.cell? ⟨w.heap.size + 1, 2, none⟩ = some (.bool s) ∧ W.cell? ⟨w.heap.size + 1, 3, none⟩ = some (.slice A n c) ∧
      W.cell? ⟨w.heap.size + 1 + 1, 0, none⟩ = some (.bool true) ∧ W.cell? ⟨w.heap.size + 1 + 1, 1, none⟩ = some (.float .f64 fb) ∧ W.cell? ⟨w.heap.size + 1 + 1, 2, none⟩ = some (.bool s') ∧ W.cell? ⟨w.heap.size + 1 + 1, 3, none⟩ = some (.slice A' n' c')) := Lib.hid fun W h => by
    have h1 := ob_cell h.hd
    have h2 := ob_cell h.tl.hd
    have h3 := ob_cell h.tl.tl.hd
    exact ⟨h3 1, h2 0, h2 1, h2 2, h2 3, h1 0, h1 1, h1 2, h1 3⟩
  have hne : ∀ q ∈ ([(w.heap.size + 1 + 1, numO true fb s' A' n' c'), (w.heap.size + 1, numO false f0 s A n c), (w.heap.size, .cells #[.func (.func 153) #[] #[], .func (.func 155) #[] #[]] 146 (0, 0))] : List (Nat × Obj)), q.1 ≠ w.heap.size + 1 + 1 + 1 := by
    intro q hq
    simp only [List.mem_cons, List.not_mem_nil, or_false] at hq
    rcases hq with rfl | rfl | rfl <;> simp <;> omega
  have HNE := Lib.hid hne
  have D1 := Lib.hid (FA.out _ hb0.drew)
  clear hO hb0 hW0 hne
  go_region_held3 (fun W => W.cell? ⟨w.heap.size, 1, none⟩ = some (.func (.func 155) #[] #[]) ∧
      W.cell? ⟨w.heap.size + 1, 0, none⟩ = some (.bool false) ∧ W.cell? ⟨w.heap.size + 1, 1, none⟩ = some (.float .f64 f0) ∧ W.cell? ⟨w.heap.size + 1, 2, none⟩ = some (.bool s) ∧ W.cell? ⟨w.heap.size + 1, 3, none⟩ = some (.slice A n c) ∧
      W.cell? ⟨w.heap.size + 1 + 1, 0, none⟩ = some (.bool true) ∧ W.cell? ⟨w.heap.size + 1 + 1, 1, none⟩ = some (.float .f64 fb) ∧ W.cell? ⟨w.heap.size + 1 + 1, 2, none⟩ = some (.bool s') ∧ W.cell? ⟨w.heap.size + 1 + 1, 3, none⟩ = some (.slice A' n' c'))
    ((exact KS.out _ (Hid.out (by assumption))))
    (first
      | (go_at_call 89; (with_reducible refine D1.out.mono ?_); rintro e v1 ⟨rfl, hbz⟩; have XS1 := Lib.hid (XS0.out.below hbz); have Y1 := Lib.hid (Y0.out.below hbz); have HB1 := Lib.hid (bel_trans (B := w.heap.size) HB0.out hbz); clear hbz)
      | (go_at_call 89; (with_reducible refine (FB.out _).mono ?_); rintro e v2 ⟨rfl, hbz⟩; have XS2 := Lib.hid (XS1.out.below hbz); have Y2 := Lib.hid (Y1.out.below hbz); have HB2 := Lib.hid (bel_trans (B := w.heap.size) HB1.out hbz); clear hbz)
      | (go_at_call 155; (with_reducible refine (A1.out _).mono ?_); rintro e v3 ⟨rfl, rfl⟩)
      | (go_at_call 34; (with_reducible refine (F1.out _ _).mono ?_); rintro e v4 ⟨rfl, hbz⟩; have XS4 := Lib.hid (XS2.out.below hbz); have Y4 := Lib.hid (Y2.out.below hbz); have HB4 := Lib.hid (bel_trans (B := w.heap.size) HB2.out hbz); have XS5 := Lib.hid (XS4.out.set4 HNE.out (.bool true) (.float .f64 r) (.bool false) (.slice none 0 0)); obtain ⟨y0, y1, y2, y3, y4, y5, y6, y7, yl⟩ := Y4.out.facts; clear hbz))
  all_goals
    obtain ⟨W, hW, ZR, hbW, hvW, -⟩ := stored_num Y4.out HB4.out (by omega) true r false none 0 0
    obtain ⟨z0, z1, z2, z3, -, -, -, -, zl⟩ := ZR.facts
    have HBW := Lib.hid hbW
    clear hbW hvW ZR
    go_wp2
    first | rw [hW] | skip
    refine bodyPost_ret (v := .tuple #[numA true r false none 0 0, .int .i64 0]) (by simp [results, Tryz.results156, go_sem, z0, z1, z2, z3]) rfl ?_
    exact ⟨rfl, HBW.out⟩

end LM
end Go.Proofs.YtpaefbojilnnnaaGreatDoor

namespace Go.Proofs.YtpaefbojilnnnaaGreatDoor
open Go Go.RowKit
namespace LM
set_option linter.unusedVariables false
attribute [local go_sem] run_store_flt

set_option maxRecDepth 100000 in
set_option maxHeartbeats 4000000 in
theorem tadd_if (f0 fa fb r : Nat) (s : Bool) (A : Option Addr) (n c : Nat) (s' : Bool) (A' : Option Addr) (n' c' : Nat) (w : World)
    (hO : ∀ W, Below w.heap.size w W → Calls Tryz.prog 27 #[.agg #[.bool s, .slice A n c]] W fun e w' => e = .returned (.float .f64 fa) ∧ Below W.heap.size W w')
    (hr : floatBits .add .f64 fa fb = some r) :
    Calls Tryz.prog 97 #[numA false f0 s A n c, numA true fb s' A' n' c'] w fun e w' =>
      e = .returned (.tuple #[numA true r false none 0 0, .int .i64 0]) ∧ Below w.heap.size w w' := by
  have C1 := Lib.hid fun W (h : Below w.heap.size w W) => tof_two f0 0 fa fb r s A n c s' A' n' c' W (fun W' h' => hO W' (bel_trans (B := w.heap.size) h h')) hr
  clear hO hr
  go_enter Tryz.func97, Tryz.ntmps97
  go_wp2_with (fail)
  generalize hW0 : (((w.alloc (numO false f0 s A n c)).alloc (numO true fb s' A' n' c')).alloc (numO false 0 false none 0 0)) = W0
  have hb0 : Below w.heap.size w W0 := by
    rw [← hW0]
    exact (((Below.refl _ w).alloc (Nat.le_refl _) _).alloc (by simp) _).alloc (by simp; omega) _
  have hy0 : Nx W0 (w.heap.size + 1 + 1) false 0 false none 0 0 := by
    rw [← hW0]
    have h := Nx.new ((w.alloc (numO false f0 s A n c)).alloc (numO true fb s' A' n' c')) false 0 false none 0 0
    simp only [World.size_alloc] at h
    exact h
  have Y0 := Lib.hid hy0
  have HB0 := Lib.hid hb0
  clear hW0 hb0 hy0
  refine (C1.out _ HB0.out).mono ?_
  rintro e w1 ⟨rfl, hb1⟩
  have Y1 := Y0.out.below hb1
  obtain ⟨W, hW, ZR, hbW, hvW, -⟩ := stored_num Y1 (bel_trans (B := w.heap.size) HB0.out hb1) (by omega) true r false none 0 0
  obtain ⟨z0, z1, z2, z3, -, -, -, -, zl⟩ := ZR.facts
  obtain ⟨y0, y1, y2, y3, y4, y5, y6, y7, yl⟩ := Y1.facts
  have HBW := Lib.hid hbW
  clear hbW hvW ZR Y1 hb1
  go_wp2_with (fail)
  first | rw [hW] | skip
  refine bodyPost_ret (v := .tuple #[numA true r false none 0 0, .int .i64 0]) (by simp [results, Tryz.results97, go_sem, z0, z1, z2, z3]) rfl ?_
  exact ⟨rfl, HBW.out⟩

set_option maxRecDepth 100000 in
set_option maxHeartbeats 4000000 in
/-- by nothing -/
theorem tdiv_zero (fl : Bool) (f f0 : Nat) (s : Bool) (A : Option Addr) (n c : Nat) (s' : Bool) (A' : Option Addr) (c' : Nat) (w : World) :
    Calls Tryz.prog 36 #[numA fl f s A n c, numA false f0 s' A' 0 c'] w fun e w' =>
      e = .returned (.tuple #[numA false 0 false none 0 0, .int .i64 12]) ∧ Below w.heap.size w w' := by
  have N1 := Lib.hid fun W => tnothing_any s' A' 0 c' W
  go_enter Tryz.func36, Tryz.ntmps36
  go_wp2_with (fail)
  generalize hW0 : (((w.alloc (numO fl f s A n c)).alloc (numO false f0 s' A' 0 c')).alloc (numO false 0 false none 0 0)) = W0
  have hb0 : Below w.heap.size w W0 := by
    rw [← hW0]
    exact (((Below.refl _ w).alloc (Nat.le_refl _) _).alloc (by simp) _).alloc (by simp; omega) _
  have hy0 : Nx W0 (w.heap.size + 1 + 1) false 0 false none 0 0 := by
    rw [← hW0]
    have h := Nx.new ((w.alloc (numO fl f s A n c)).alloc (numO false f0 s' A' 0 c')) false 0 false none 0 0
    simp only [World.size_alloc] at h
    exact h
  have Y0 := Lib.hid hy0
  have HB0 := Lib.hid hb0
  clear hW0 hb0 hy0
  refine (N1.out _).mono ?_
  rintro e w1 ⟨rfl, hb1⟩
  have Y1 := Y0.out.below hb1
  obtain ⟨W, hW, ZR, hbW, hvW, -⟩ := stored_num Y1 (bel_trans (B := w.heap.size) HB0.out hb1) (by omega) false 0 false none 0 0
  obtain ⟨z0, z1, z2, z3, -, -, -, -, zl⟩ := ZR.facts
  obtain ⟨y0, y1, y2, y3, y4, y5, y6, y7, yl⟩ := Y1.facts
  have HBW := Lib.hid hbW
  clear hbW hvW ZR Y1 hb1
  go_wp2_with (fail)
  first | rw [hW] | skip
  refine bodyPost_ret (v := .tuple #[numA false 0 false none 0 0, .int .i64 12]) (by simp [results, Tryz.results36, go_sem, z0, z1, z2, z3]) rfl ?_
  exact ⟨rfl, HBW.out⟩

/-- two numbers' blocks, and a result's -/
theorem three_num (w : World) (fl : Bool) (f : Nat) (s : Bool) (A : Option Addr) (n c : Nat) (fl' : Bool) (f' : Nat) (s' : Bool) (A' : Option Addr) (n' c' : Nat) :
    ∃ W, ((w.alloc (numO fl f s A n c)).alloc (numO fl' f' s' A' n' c')).alloc (numO false 0 false none 0 0) = W ∧ Below w.heap.size w W ∧
      Obs W [(w.heap.size + 1 + 1, numO false 0 false none 0 0), (w.heap.size + 1, numO fl' f' s' A' n' c'), (w.heap.size, numO fl f s A n c)] := by
  refine ⟨_, rfl, (((Below.refl _ w).alloc (Nat.le_refl _) _).alloc (by simp) _).alloc (by simp; omega) _, ?_⟩
  have h := ((Obs.nil.new (w := w) (numO fl f s A n c)).new (numO fl' f' s' A' n' c')).new (numO false 0 false none 0 0)
  simp only [World.size_alloc] at h
  exact h
theorem Obs.nx0 {w : World} {g : Nat} {fl : Bool} {f : Nat} {s : Bool} {A : Option Addr} {n c : Nat} {L : List (Nat × Obj)} (h : Obs w ((g, numO fl f s A n c) :: L)) : Nx w g fl f s A n c := h.hd

set_option maxRecDepth 100000 in
set_option maxHeartbeats 4000000 in
/-- of two exact ones, where nothing is left -/
theorem tdiv_whole (f f0 : Nat) (s : Bool) (A : Option Addr) (n c : Nat) (s' : Bool) (A' : Option Addr) (n' c' : Nat) (x y : Int) (w : World) (hx : IntV w (.agg #[.bool s, .slice A n c]) x) (hy : IntV w (.agg #[.bool s', .slice A' n' c']) y)
    (nx : ¬ BigI x) (ny : ¬ BigI y) (hy0 : y ≠ 0) (hr : remI x y = 0) :
    Calls Tryz.prog 36 #[numA false f s A n c, numA false f0 s' A' n' c'] w fun e w' =>
      ∃ s1 A1 n1 c1, e = .returned (.tuple #[numA false 0 s1 A1 n1 c1, .int .i64 0]) ∧ IntV w' (.agg #[.bool s1, .slice A1 n1 c1]) (quoI x y) ∧ Below w.heap.size w w' := by
  have N1 := Lib.hid tnothing_any
  have W1 := Lib.hid twhole_any
  have hn0 : n' ≠ 0 := fun h => hy0 (hy.parts.2.1.1 h)
  have d1 : decide (n' = 0) = false := decide_eq_false hn0
  have HX := Lib.hid hx
  have HY := Lib.hid hy
  have NX := Lib.hid nx
  have NY := Lib.hid ny
  have HY0 := Lib.hid hy0
  have HR := Lib.hid hr
  obtain ⟨W0, hW0, hb0, hO⟩ := three_num w false f s A n c false f0 s' A' n' c'
  have O0 := Lib.hid hO
  have HB0 := Lib.hid hb0
  have HW0 := Lib.hid hW0
  clear hx hy nx ny hy0 hr hO hb0 hW0
  go_enter Tryz.func36, Tryz.ntmps36
  go_wp2_with (fail)
  rw [HW0.out]
  refine (N1.out _ _ _ _ _).mono ?_
  rw [d1]
  rintro e w1 ⟨rfl, hb1⟩
  have O1 := Lib.hid (O0.out.below hb1)
  have HB1 := Lib.hid (bel_trans (B := w.heap.size) HB0.out hb1)
  clear hb1
  obtain ⟨p0, p1, p2, p3, -, -, -, -, pl⟩ := O1.out.tl.nx0.facts
  obtain ⟨q0, q1, q2, q3, -, -, -, -, ql⟩ := O1.out.tl.tl.nx0.facts
  have Q1 := Lib.hid (equo_int (HX.out.keep HB1.out) (HY.out.keep HB1.out) NX.out NY.out)
  go_wp2_with (fail)
  refine Q1.out.mono ?_
  intro e w2 hq
  obtain ⟨s2, A2, n2, c2, s3, A3, n3, c3, er, zq, zr, rfl, hvq, hvr, ho, hb2⟩ := hq.out
  obtain ⟨rfl, rfl, rfl⟩ : er = 0 ∧ zq = quoI x y ∧ zr = remI x y := by
    rcases ho with ⟨h, _⟩ | ⟨_, h1, h2, h3⟩
    · exact absurd h HY0.out
    · exact ⟨h1, h2, h3⟩
  have hn3 : n3 = 0 := hvr.parts.2.1.2 HR.out
  have hbk := bel_trans (B := w.heap.size) HB1.out hb2
  have X3 := Lib.hid ((Bx.new w2 s2 A2 n2 c2).alloc (.cells #[.bool s3, .slice A3 n3 c3] 38))
  have O3 := Lib.hid (((O1.out.below hb2).alloc (.cells #[.bool s2, .slice A2 n2 c2] 38)).alloc (.cells #[.bool s3, .slice A3 n3 c3] 38))
  have V3 := Lib.hid ((hvq.alloc (.cells #[.bool s2, .slice A2 n2 c2] 38)).alloc (.cells #[.bool s3, .slice A3 n3 c3] 38))
  have HB3 := Lib.hid ((hbk.alloc hbk.size (.cells #[.bool s2, .slice A2 n2 c2] 38)).alloc (by have := hbk.size; simp; omega) (.cells #[.bool s3, .slice A3 n3 c3] 38))
  have d3 : decide (n3 = 0) = true := decide_eq_true hn3
  clear hq ho hvq hvr hb2 hbk p0 p1 p2 p3 pl q0 q1 q2 q3 ql hn3
  go_wp2_with (fail)
  refine (N1.out _ _ _ _ _).mono ?_
  rw [d3]
  rintro e w4 ⟨rfl, hb4⟩
  have X4 := Lib.hid (X3.out.below hb4)
  have O4 := Lib.hid (O3.out.below hb4)
  have V4 := Lib.hid (V3.out.keep hb4)
  have HB4 := Lib.hid (bel_trans (B := w.heap.size) HB3.out hb4)
  clear hb4
  obtain ⟨q0, q1, -, -, ql⟩ := X4.out.facts
  go_wp2_with (fail)
  refine (W1.out _ _ _ _ _).mono ?_
  rintro e w5 ⟨rfl, hb5, hv5⟩
  have Y5 := (O4.out.below hb5).nx0
  obtain ⟨W, hW, ZR, hbW, hvW, -⟩ := stored_num Y5 (bel_trans (B := w.heap.size) HB4.out hb5) (by omega) false 0 s2 A2 n2 c2
  obtain ⟨z0, z1, z2, z3, -, -, -, -, zl⟩ := ZR.facts
  obtain ⟨y0, y1, y2, y3, y4, y5, y6, y7, yl⟩ := Y5.facts
  have HBW := Lib.hid hbW
  have HVW := Lib.hid (hvW _ _ (hv5 _ _ V4.out))
  clear hbW hvW ZR Y5 hb5 hv5 q0 q1 ql
  go_wp2_with (fail)
  first | rw [hW] | skip
  refine bodyPost_ret (v := .tuple #[numA false 0 s2 A2 n2 c2, .int .i64 0]) (by simp [results, Tryz.results36, go_sem, z0, z1, z2, z3]) rfl ?_
  exact ⟨s2, A2, n2, c2, rfl, HVW.out, HBW.out⟩

set_option maxRecDepth 100000 in
set_option maxHeartbeats 4000000 in
/-- of two exact ones, where something is left -/
theorem tdiv_flo (f f0 fa fb r : Nat) (s : Bool) (A : Option Addr) (n c : Nat) (s' : Bool) (A' : Option Addr) (n' c' : Nat) (x y : Int) (w : World) (hx : IntV w (.agg #[.bool s, .slice A n c]) x) (hy : IntV w (.agg #[.bool s', .slice A' n' c']) y)
    (nx : ¬ BigI x) (ny : ¬ BigI y) (hy0 : y ≠ 0) (hr : remI x y ≠ 0)
    (hOa : ∀ W, Below w.heap.size w W → Calls Tryz.prog 27 #[.agg #[.bool s, .slice A n c]] W fun e w' => e = .returned (.float .f64 fa) ∧ Below W.heap.size W w')
    (hOb : ∀ W, Below w.heap.size w W → Calls Tryz.prog 27 #[.agg #[.bool s', .slice A' n' c']] W fun e w' => e = .returned (.float .f64 fb) ∧ Below W.heap.size W w')
    (hop : floatBits .quo .f64 fa fb = some r) :
    Calls Tryz.prog 36 #[numA false f s A n c, numA false f0 s' A' n' c'] w fun e w' =>
      e = .returned (.tuple #[numA true r false none 0 0, .int .i64 0]) ∧ Below w.heap.size w w' := by
  have N1 := Lib.hid tnothing_any
  have F1 := Lib.hid tflo_any
  have FA := Lib.hid fun W (h : Below w.heap.size w W) => tfloating_i fa f s A n c W fun W' h' => hOa W' (bel_trans (B := w.heap.size) h h')
  have FB := Lib.hid fun W (h : Below w.heap.size w W) => tfloating_i fb f0 s' A' n' c' W fun W' h' => hOb W' (bel_trans (B := w.heap.size) h h')
  have hdv : ∀ t W, (binOp .quo t (.float .f64 fa) (.float .f64 fb)).run Tryz.prog W = .ok (.float .f64 r) W := fun t W => run_float_arith W .quo t .f64 _ _ _ hop
  have hn0 : n' ≠ 0 := fun h => hy0 (hy.parts.2.1.1 h)
  have d1 : decide (n' = 0) = false := decide_eq_false hn0
  have HX := Lib.hid hx
  have HY := Lib.hid hy
  have NX := Lib.hid nx
  have NY := Lib.hid ny
  have HY0 := Lib.hid hy0
  have HR := Lib.hid hr
  obtain ⟨W0, hW0, hb0, hO⟩ := three_num w false f s A n c false f0 s' A' n' c'
  have O0 := Lib.hid hO
  have HB0 := Lib.hid hb0
  have HW0 := Lib.hid hW0
  clear hx hy nx ny hy0 hr hO hb0 hW0 hOa hOb hop
  go_enter Tryz.func36, Tryz.ntmps36
  go_wp2_with (fail)
  rw [HW0.out]
  refine (N1.out _ _ _ _ _).mono ?_
  rw [d1]
  rintro e w1 ⟨rfl, hb1⟩
  have O1 := Lib.hid (O0.out.below hb1)
  have HB1 := Lib.hid (bel_trans (B := w.heap.size) HB0.out hb1)
  clear hb1
  obtain ⟨p0, p1, p2, p3, -, -, -, -, pl⟩ := O1.out.tl.nx0.facts
  obtain ⟨q0, q1, q2, q3, -, -, -, -, ql⟩ := O1.out.tl.tl.nx0.facts
  have Q1 := Lib.hid (equo_int (HX.out.keep HB1.out) (HY.out.keep HB1.out) NX.out NY.out)
  go_wp2_with (fail)
  refine Q1.out.mono ?_
  intro e w2 hq
  obtain ⟨s2, A2, n2, c2, s3, A3, n3, c3, er, zq, zr, rfl, hvq, hvr, ho, hb2⟩ := hq.out
  obtain ⟨rfl, rfl, rfl⟩ : er = 0 ∧ zq = quoI x y ∧ zr = remI x y := by
    rcases ho with ⟨h, _⟩ | ⟨_, h1, h2, h3⟩
    · exact absurd h HY0.out
    · exact ⟨h1, h2, h3⟩
  have hn3 : n3 ≠ 0 := fun h => HR.out (hvr.parts.2.1.1 h)
  have hbk := bel_trans (B := w.heap.size) HB1.out hb2
  have X3 := Lib.hid ((Bx.new w2 s2 A2 n2 c2).alloc (.cells #[.bool s3, .slice A3 n3 c3] 38))
  have O3 := Lib.hid (((O1.out.below hb2).alloc (.cells #[.bool s2, .slice A2 n2 c2] 38)).alloc (.cells #[.bool s3, .slice A3 n3 c3] 38))
  have V3 := Lib.hid ((hvq.alloc (.cells #[.bool s2, .slice A2 n2 c2] 38)).alloc (.cells #[.bool s3, .slice A3 n3 c3] 38))
  have HB3 := Lib.hid ((hbk.alloc hbk.size (.cells #[.bool s2, .slice A2 n2 c2] 38)).alloc (by have := hbk.size; simp; omega) (.cells #[.bool s3, .slice A3 n3 c3] 38))
  have d3 : decide (n3 = 0) = false := decide_eq_false hn3
  clear hq ho hvq hvr hb2 hbk p0 p1 p2 p3 pl q0 q1 q2 q3 ql hn3
  go_wp2_with (fail)
  refine (N1.out _ _ _ _ _).mono ?_
  rw [d3]
  rintro e w4 ⟨rfl, hb4⟩
  have X4 := Lib.hid (X3.out.below hb4)
  have O4 := Lib.hid (O3.out.below hb4)
  have V4 := Lib.hid (V3.out.keep hb4)
  have HB4 := Lib.hid (bel_trans (B := w.heap.size) HB3.out hb4)
  clear hb4
  have KS : Hid (∀ W, Obs W [(w.heap.size + 1, numO false f0 s' A' n' c'), (w.heap.size, numO false f s A n c)] →
      W.cell? ⟨w.heap.size, 0, none⟩ = some (.bool false) ∧ W.cell? ⟨w.heap.size, 1, none⟩ = some (.float .f64 f) ∧ W.cell? ⟨w.heap.size, 2, none⟩ = some (.bool s) ∧ W.cell? ⟨w.heap.size, 3, none⟩ = some (.slice A n c) ∧
      W.cell? ⟨w.heap.size + 1, 0, none⟩ = some (.bool false) ∧ W.cell? ⟨w.heap.size + 1, 1, none⟩ = some (.float .f64 f0) ∧ W.cell? ⟨w.heap.size + 1, 2, none⟩ = some (.bool s') ∧ W.cell? ⟨w.heap.size + 1, 3, none⟩ = some (.slice A' n' c')) := Lib.hid fun W h => by
    have h1 := ob_cell h.hd
    have h2 := ob_cell h.tl.hd
    exact ⟨h2 0, h2 1, h2 2, h2 3, h1 0, h1 1, h1 2, h1 3⟩
  have hne : ∀ q ∈ ([(w.heap.size + 1, numO false f0 s' A' n' c'), (w.heap.size, numO false f s A n c)] : List (Nat × Obj)), q.1 ≠ w.heap.size + 1 + 1 := by
    intro q hq
    simp only [List.mem_cons, List.not_mem_nil, or_false] at hq
    rcases hq with rfl | rfl <;> simp <;> omega
  have HNE := Lib.hid hne
  have XS5 := Lib.hid O4.out.tl.drew
  have Y5 : Hid (Nx w4.drew (w.heap.size + 1 + 1) false 0 false none 0 0) := Lib.hid O4.out.nx0
  have HB5 := Lib.hid HB4.out.drew
  have D1 := Lib.hid (FA.out _ HB5.out)
  clear hne
  go_wp2_with (fail)
  go_region_held3 (fun W => W.cell? ⟨w.heap.size, 0, none⟩ = some (.bool false) ∧ W.cell? ⟨w.heap.size, 1, none⟩ = some (.float .f64 f) ∧ W.cell? ⟨w.heap.size, 2, none⟩ = some (.bool s) ∧ W.cell? ⟨w.heap.size, 3, none⟩ = some (.slice A n c) ∧
      W.cell? ⟨w.heap.size + 1, 0, none⟩ = some (.bool false) ∧ W.cell? ⟨w.heap.size + 1, 1, none⟩ = some (.float .f64 f0) ∧ W.cell? ⟨w.heap.size + 1, 2, none⟩ = some (.bool s') ∧ W.cell? ⟨w.heap.size + 1, 3, none⟩ = some (.slice A' n' c'))
    ((exact KS.out _ (Hid.out (by assumption))))
    (first
      | (go_at_call 89; (with_reducible refine D1.out.mono ?_); rintro e v1 ⟨rfl, hbz⟩; have XS6 := Lib.hid (XS5.out.below hbz); have Y6 := Lib.hid (Y5.out.below hbz); have HB6 := Lib.hid (bel_trans (B := w.heap.size) HB5.out hbz); have D2 := Lib.hid (FB.out _ HB6.out); clear hbz)
      | (go_at_call 89; (with_reducible refine D2.out.mono ?_); rintro e v2 ⟨rfl, hbz⟩; have XS7 := Lib.hid (XS6.out.below hbz); have Y7 := Lib.hid (Y6.out.below hbz); have HB7 := Lib.hid (bel_trans (B := w.heap.size) HB6.out hbz); clear hbz)
      | (go_at_call 34; (with_reducible refine (F1.out _ _).mono ?_); rintro e v4 ⟨rfl, hbz⟩; have XS8 := Lib.hid (XS7.out.below hbz); have Y8 := Lib.hid (Y7.out.below hbz); have HB8 := Lib.hid (bel_trans (B := w.heap.size) HB7.out hbz); have XS9 := Lib.hid (XS8.out.set4 HNE.out (.bool true) (.float .f64 r) (.bool false) (.slice none 0 0)); obtain ⟨y0, y1, y2, y3, y4, y5, y6, y7, yl⟩ := Y8.out.facts; clear hbz))
  all_goals
    obtain ⟨W, hW, ZR, hbW, hvW, -⟩ := stored_num Y8.out HB8.out (by omega) true r false none 0 0
    obtain ⟨z0, z1, z2, z3, -, -, -, -, zl⟩ := ZR.facts
    have HBW := Lib.hid hbW
    clear hbW hvW ZR
    go_wp2
    first | rw [hW] | skip
    refine bodyPost_ret (v := .tuple #[numA true r false none 0 0, .int .i64 0]) (by simp [results, Tryz.results36, go_sem, z0, z1, z2, z3]) rfl ?_
    exact ⟨rfl, HBW.out⟩

end LM
end Go.Proofs.YtpaefbojilnnnaaGreatDoor

namespace Go.Proofs.YtpaefbojilnnnaaGreatDoor
open Go.RowKit
namespace LM
set_option linter.unusedVariables false

/-- a scope that is jumped back into, each time with a lesser number -/
theorem scope_ghost {P : Program} {Q : Exit → Act → World → Prop} {a : Act} {w : World} {c rest : Code} (l : Nat) (J : Nat → Act → World → Prop) (hf : findLabel c l = some rest)
    (first : c.wp P (Exit.jump l (fun a' w' => ∃ n, J n a' w') Q) a w)
    (pass : ∀ n a w, J n a w → rest.wp P (Exit.jump l (fun a' w' => ∃ m, m < n ∧ J m a' w') Q) a w) : (Code.scope c).wp P Q a w := by
  refine wp_scope_jumps l (fun a w => ∃ n, J n a w) (fun a w => leastOf fun n => J n a w) hf first ?_
  intro a w hJ
  obtain ⟨h0, -⟩ := leastOf_spec hJ
  refine wp_mono (pass _ a w h0) ?_
  intro e a' w' he
  cases e with
  | goto l' =>
    obtain ⟨rfl, m, hm, hj⟩ := he
    exact ⟨rfl, ⟨m, hj⟩, Nat.lt_of_le_of_lt ((leastOf_spec ⟨m, hj⟩).2 m hj) hm⟩
  | normal => exact he
  | exit id => exact he
  | ret => exact he
  | panic ch => exact he
  | outgrown => exact he

theorem retI_mk {w w' : World} {s : Bool} {A : Option Addr} {n c : Nat} {z : Int} (h : IntV w' (.agg #[.bool s, .slice A n c]) z) (hb : Below w.heap.size w w') : RetI w z (.returned (.agg #[.bool s, .slice A n c])) w' := by
  have hs := h.parts.1
  subst hs
  exact ⟨A, n, c, rfl, h, hb⟩
/-- where the rounds of Gcd stand -/
def Gst (w w' : World) (A1 A2 : Option Addr) (c1 c2 : Nat) (r1 r2 : List Nat) (g : Nat) : Prop :=
  Rd w' A1 r1 ∧ Rd w' A2 r2 ∧ Can r1 ∧ Can r2 ∧ (r1.length ≤ c1 ∧ c1 ≤ 9223372036854775807 ∧ r1.length ≤ 64) ∧ (r2.length ≤ c2 ∧ c2 ≤ 9223372036854775807 ∧ r2.length ≤ 64) ∧ Nat.gcd (val r1) (val r2) = g ∧ Bx w' (w.heap.size + 1 + 1) false none 0 0 ∧ Below w.heap.size w w'

set_option maxRecDepth 100000 in
set_option maxHeartbeats 4000000 in
theorem egcd_any (s t : Bool) (A B : Option Addr) (ca cb : Nat) (xs ys : List Nat) (w : World) (ha : Rd w A xs) (hb : Rd w B ys) (hx : Can xs) (hy : Can ys) (hca : xs.length ≤ ca) (hcb : ys.length ≤ cb) (hcam : ca ≤ 9223372036854775807) (hcbm : cb ≤ 9223372036854775807)
    (hxl : xs.length ≤ 64) (hyl : ys.length ≤ 64) :
    Calls Tryz.prog 86 #[.agg #[.bool s, .slice A xs.length ca], .agg #[.bool t, .slice B ys.length cb]] w (RetI w (sg false (Nat.gcd (val xs) (val ys)))) := by
  obtain ⟨hb0, x0, y0, z0⟩ := new3 w s t A B xs.length ca ys.length cb
  have HB0 := Lib.hid hb0
  have X0 := Lib.hid x0
  have Y0 := Lib.hid y0
  have Z0 := Lib.hid z0
  have HA0 := Lib.hid (ha.below hb0)
  have HBB0 := Lib.hid (hb.below hb0)
  have HX := Lib.hid hx
  have HY := Lib.hid hy
  clear hb0 x0 y0 z0 ha hb hx hy
  go_enter Tryz.func86, Tryz.ntmps86
  go_wp2
  refine scope_ghost 0 (fun n a' w' => ∃ (A1 A2 : Option Addr) (c1 c2 : Nat) (r1 r2 : List Nat) (u7 u8 u9 u10 u11 u12 u13 u14 u15 u16 u17 u18 u19 u20 u21 u22 u23 u24 u25 u26 u27 u28 : Value),
      a' = { tmps := #[.agg #[.bool s, .slice A xs.length ca], .agg #[.bool t, .slice B ys.length cb], .pointer (some ⟨w.heap.size, 0, none⟩), .pointer (some ⟨w.heap.size + 1, 0, none⟩), .pointer (some ⟨w.heap.size + 1 + 1, 0, none⟩), .slice A1 r1.length c1, .slice A2 r2.length c2, u7, u8, u9, u10, u11, u12, u13, u14, u15, u16, u17, u18, u19, u20, u21, u22, u23, u24, u25, u26, u27, u28], defers := [] } ∧
      Gst w w' A1 A2 c1 c2 r1 r2 (Nat.gcd (val xs) (val ys)) ∧ val r2 = n) rfl ?_ ?_
  · go_wp2
    go_quiet (fail)
    have hst : Gst w ((((w.alloc (.cells #[.bool s, .slice A xs.length ca] 38)).alloc (.cells #[.bool t, .slice B ys.length cb] 38)).alloc (.cells #[.bool false, .slice none 0 0] 38)).drewN nq) A B ca cb xs ys (Nat.gcd (val xs) (val ys)) :=
      ⟨HA0.out.drewN nq, HBB0.out.drewN nq, HX.out, HY.out, ⟨hca, hcam, hxl⟩, ⟨hcb, hcbm, hyl⟩, rfl, Z0.out, HB0.out.trans (Joins.below_le (Joins.below_draws _ _ _) HB0.out.size)⟩
    generalize ((((w.alloc (.cells #[.bool s, .slice A xs.length ca] 38)).alloc (.cells #[.bool t, .slice B ys.length cb] 38)).alloc (.cells #[.bool false, .slice none 0 0] 38)).drewN nq) = wr at hst ⊢
    have hst' := Lib.hid hst
    clear hst
    go_wp2_with fail
    go_step3
    have hst := hst'.out
    clear hst'
    obtain ⟨h1, h2, h3, h4, ⟨h5, h6, h7⟩, ⟨h8, h9, h10⟩, h11, h12, h13⟩ := hst
    have H1 := Lib.hid h1
    have H2 := Lib.hid h2
    have H3 := Lib.hid h3
    have H4 := Lib.hid h4
    have H11 := Lib.hid h11
    have H12 := Lib.hid h12
    have H13 := Lib.hid h13
    clear h1 h2 h3 h4 h11 h12 h13
    by_cases h0 : ys.length = 0
    · have hd : decide (0 < ys.length) = false := decide_eq_false (by omega)
      have hvg : val xs = Nat.gcd (val xs) (val ys) := by rw [(can_zero H4.out).1 h0, Nat.gcd_zero_right]
      have HVG := Lib.hid hvg
      have HT := Lib.hid (trimUp_any A ca xs wr H1.out H3.out.1 h5 h6 (by omega))
      clear h0 hvg
      go_wp2_with fail
      refine HT.out.mono ?_
      rintro e w2 ⟨q, rfl, hB, hq, hqv, hql, hb2⟩
      have hq1 : Rd w2 (some ⟨wr.heap.size, 0, none⟩) q := Rd.of_blk (pre := []) (post := []) (by simpa using hB)
      have HS := Lib.hid (signed_num false _ q.length q w2 (Nat.le_refl _) (by omega) hq1 hq)
      rw [hqv, HVG.out] at HS
      have Z2 := Lib.hid (H12.out.below hb2)
      have HB2 := Lib.hid (H13.out.trans (hb2.mono H13.out.size))
      clear hB hq hqv hql hb2 hq1
      go_wp2_with fail
      refine HS.out.mono ?_
      intro e w3 hr
      obtain ⟨s3, A3, n3, c3, rfl, hv3, hb3⟩ := hr.gen
      have Z3 := Lib.hid (Z2.out.below hb3)
      obtain ⟨q0, q1, z0, z1, zl⟩ := Z3.out.facts
      have HB3 := Lib.hid (HB2.out.trans (hb3.mono HB2.out.size))
      have HV3 := Lib.hid hv3
      clear hr hv3 hb3
      go_wp2
      obtain ⟨W4, hW4, Z, hb4, hv4, -, -, -⟩ := stored_world Z3.out HB3.out (by omega) s3 A3 n3 c3
      rw [hW4]
      have HV4 := Lib.hid (hv4 _ _ HV3.out)
      obtain ⟨c0, ca', -, -, -⟩ := Z.facts
      clear q0 q1 z0 z1 zl hW4 hv4
      simp only [Exit.jump]
      refine bodyPost_ret (v := .agg #[.bool s3, .slice A3 n3 c3]) (by simp [results, Tryz.results86, go_sem, c0, ca']) rfl ?_
      exact retI_mk HV4.out hb4
    · have hd : decide (0 < ys.length) = true := decide_eq_true (by omega)
      have HP := Lib.hid ((can_pos H4.out).1 (by omega))
      have HD := Lib.hid (div_any A B ca cb xs ys wr H1.out H2.out H3.out.1 H4.out.1 h5 h8 h6 h9)
      have N1 := Lib.hid (not_big_len H3.out h7)
      have N2 := Lib.hid (not_big_len H4.out h10)
      clear h0
      go_wp2_with fail
      refine HD.out.mono ?_
      intro e w2 hdv
      obtain ⟨A3, c3, r3, A4, c4, r4, er, rfl, -, ⟨b1, b2, b3, b4⟩, hcase, hb2⟩ := div_open hdv N1.out N2.out
      have hv4 : val r4 = val xs % val ys := by
        rcases hcase with ⟨k0, _⟩ | ⟨_, _, _, k⟩
        · exact absurd k0 (by have := HP.out; omega)
        · exact k
      have l4 : r4.length ≤ 64 := len_not_big b4 (by rw [hv4]; exact fun h => N1.out (h.mono (Nat.mod_le _ _)))
      have hst2 : Gst w w2 B A4 cb c4 ys r4 (Nat.gcd (val xs) (val ys)) := ⟨H2.out.below hb2, b3, H4.out, b4, ⟨h8, h9, h10⟩, ⟨b1, b2, l4⟩, by rw [hv4, ← gcd_step], H12.out.below hb2, H13.out.trans (hb2.mono H13.out.size)⟩
      have HST := Lib.hid hst2
      have HLT : Hid (val r4 < val ys) := Lib.hid (by rw [hv4]; exact Nat.mod_lt _ HP.out)
      clear hdv hcase hv4 b3 b4 hst2 hb2
      go_wp2
      go_step3
      refine (show (0 = 0 ∧ ∃ m, _) from ⟨rfl, val r4, B, A4, cb, c4, ys, r4, _, _, _, _, _, _, _, _, _, _, _, _, _, _, _, _, _, _, _, _, _, _, rfl, HST.out, rfl⟩)

  · rintro n a wr ⟨A1, A2, c1, c2, r1, r2, u7, u8, u9, u10, u11, u12, u13, u14, u15, u16, u17, u18, u19, u20, u21, u22, u23, u24, u25, u26, u27, u28, rfl, hst, rfl⟩
    obtain ⟨h1, h2, h3, h4, ⟨h5, h6, h7⟩, ⟨h8, h9, h10⟩, h11, h12, h13⟩ := hst
    have H1 := Lib.hid h1
    have H2 := Lib.hid h2
    have H3 := Lib.hid h3
    have H4 := Lib.hid h4
    have H11 := Lib.hid h11
    have H12 := Lib.hid h12
    have H13 := Lib.hid h13
    clear h1 h2 h3 h4 h11 h12 h13
    by_cases h0 : r2.length = 0
    · have hd : decide (0 < r2.length) = false := decide_eq_false (by omega)
      have hvg : val r1 = Nat.gcd (val xs) (val ys) := by have := H11.out; rw [(can_zero H4.out).1 h0, Nat.gcd_zero_right] at this; exact this
      have HVG := Lib.hid hvg
      have HT := Lib.hid (trimUp_any A1 c1 r1 wr H1.out H3.out.1 h5 h6 (by omega))
      clear h0 hvg
      go_wp2_with fail
      refine HT.out.mono ?_
      rintro e w2 ⟨q, rfl, hB, hq, hqv, hql, hb2⟩
      have hq1 : Rd w2 (some ⟨wr.heap.size, 0, none⟩) q := Rd.of_blk (pre := []) (post := []) (by simpa using hB)
      have HS := Lib.hid (signed_num false _ q.length q w2 (Nat.le_refl _) (by omega) hq1 hq)
      rw [hqv, HVG.out] at HS
      have Z2 := Lib.hid (H12.out.below hb2)
      have HB2 := Lib.hid (H13.out.trans (hb2.mono H13.out.size))
      clear hB hq hqv hql hb2 hq1
      go_wp2_with fail
      refine HS.out.mono ?_
      intro e w3 hr
      obtain ⟨s3, A3, n3, c3, rfl, hv3, hb3⟩ := hr.gen
      have Z3 := Lib.hid (Z2.out.below hb3)
      obtain ⟨q0, q1, z0, z1, zl⟩ := Z3.out.facts
      have HB3 := Lib.hid (HB2.out.trans (hb3.mono HB2.out.size))
      have HV3 := Lib.hid hv3
      clear hr hv3 hb3
      go_wp2
      obtain ⟨W4, hW4, Z, hb4, hv4, -, -, -⟩ := stored_world Z3.out HB3.out (by omega) s3 A3 n3 c3
      rw [hW4]
      have HV4 := Lib.hid (hv4 _ _ HV3.out)
      obtain ⟨c0, c1', -, -, -⟩ := Z.facts
      clear q0 q1 z0 z1 zl hW4 hv4
      simp only [Exit.jump]
      refine bodyPost_ret (v := .agg #[.bool s3, .slice A3 n3 c3]) (by simp [results, Tryz.results86, go_sem, c0, c1']) rfl ?_
      exact retI_mk HV4.out hb4
    · have hd : decide (0 < r2.length) = true := decide_eq_true (by omega)
      have HP := Lib.hid ((can_pos H4.out).1 (by omega))
      have HD := Lib.hid (div_any A1 A2 c1 c2 r1 r2 wr H1.out H2.out H3.out.1 H4.out.1 h5 h8 h6 h9)
      have N1 := Lib.hid (not_big_len H3.out h7)
      have N2 := Lib.hid (not_big_len H4.out h10)
      clear h0
      go_wp2_with fail
      refine HD.out.mono ?_
      intro e w2 hdv
      obtain ⟨A3, c3, r3, A4, c4, r4, er, rfl, -, ⟨b1, b2, b3, b4⟩, hcase, hb2⟩ := div_open hdv N1.out N2.out
      have hv4 : val r4 = val r1 % val r2 := by
        rcases hcase with ⟨k0, _⟩ | ⟨_, _, _, k⟩
        · exact absurd k0 (by have := HP.out; omega)
        · exact k
      have l4 : r4.length ≤ 64 := len_not_big b4 (by rw [hv4]; exact fun h => N1.out (h.mono (Nat.mod_le _ _)))
      have hst2 : Gst w w2 A2 A4 c2 c4 r2 r4 (Nat.gcd (val xs) (val ys)) := ⟨H2.out.below hb2, b3, H4.out, b4, ⟨h8, h9, h10⟩, ⟨b1, b2, l4⟩, by rw [hv4, ← gcd_step]; exact H11.out, H12.out.below hb2, H13.out.trans (hb2.mono H13.out.size)⟩
      have HST := Lib.hid hst2
      have HLT : Hid (val r4 < val r2) := Lib.hid (by rw [hv4]; exact Nat.mod_lt _ HP.out)
      clear hdv hcase hv4 b3 b4 hst2 hb2
      go_wp2
      go_step3
      refine (show (0 = 0 ∧ ∃ m, m < val r2 ∧ _) from ⟨rfl, val r4, HLT.out, A2, A4, c2, c4, r2, r4, _, _, _, _, _, _, _, _, _, _, _, _, _, _, _, _, _, _, _, _, _, _, rfl, HST.out, rfl⟩)

/-- where the rounds of the document's Gcd stand -/
def GstR (w w' : World) (A1 A2 : Option Addr) (r1 r2 : List Nat) (g : Nat) : Prop :=
  Rd w' A1 r1 ∧ Rd w' A2 r2 ∧ Can r1 ∧ Can r2 ∧ r1.length ≤ 64 ∧ r2.length ≤ 64 ∧ Nat.gcd (val r1) (val r2) = g ∧ Bx w' (w.heap.size + 1 + 1) false none 0 0 ∧ Below w.heap.size w w'

set_option maxRecDepth 100000 in
set_option maxHeartbeats 4000000 in
theorem rgcd_any (s t : Bool) (A B : Option Addr) (ca cb : Nat) (xs ys : List Nat) (w : World) (ha : Rd w A xs) (hb : Rd w B ys) (hx : Can xs) (hy : Can ys) (hxl : xs.length ≤ 64) (hyl : ys.length ≤ 64) :
    Calls Tryz.prog 103 #[.agg #[.bool s, .slice A xs.length ca], .agg #[.bool t, .slice B ys.length cb]] w (RetR w (sg false (Nat.gcd (val xs) (val ys)))) := by
  obtain ⟨hb0, x0, y0, z0⟩ := new3 w s t A B xs.length ca ys.length cb
  have HB0 := Lib.hid hb0
  have Z0 := Lib.hid z0
  have HA0 := Lib.hid (ha.below hb0)
  have HBB0 := Lib.hid (hb.below hb0)
  have HX := Lib.hid hx
  have HY := Lib.hid hy
  clear hb0 x0 y0 z0 ha hb hx hy
  go_enter Tryz.func103, Tryz.ntmps103
  go_wp2
  go_quiet (fail)
  have hst : GstR w ((((w.alloc (.cells #[.bool s, .slice A xs.length ca] 38)).alloc (.cells #[.bool t, .slice B ys.length cb] 38)).alloc (.cells #[.bool false, .slice none 0 0] 38)).drewN nq) A B xs ys (Nat.gcd (val xs) (val ys)) :=
    ⟨HA0.out.drewN nq, HBB0.out.drewN nq, HX.out, HY.out, hxl, hyl, rfl, Z0.out, HB0.out.trans (Joins.below_le (Joins.below_draws _ _ _) HB0.out.size)⟩
  generalize ((((w.alloc (.cells #[.bool s, .slice A xs.length ca] 38)).alloc (.cells #[.bool t, .slice B ys.length cb] 38)).alloc (.cells #[.bool false, .slice none 0 0] 38)).drewN nq) = wq at hst ⊢
  have HST := Lib.hid hst
  clear hst
  go_wp2
  go_loopg [5, 6] (val ys) (fun n a b wr => ∃ (A1 A2 : Option Addr) (c1 c2 : Nat) (r1 r2 : List Nat), a = .slice A1 r1.length c1 ∧ b = .slice A2 r2.length c2 ∧ GstR w wr A1 A2 r1 r2 (Nat.gcd (val xs) (val ys)) ∧ val r2 = n)
  case atStart => exact ⟨A, B, ca, cb, xs, ys, rfl, rfl, HST.out, rfl⟩
  case round =>
    obtain ⟨A1, A2, c1, c2, r1, r2, rfl, rfl, hst, hn⟩ := hrel
    obtain ⟨h1, h2, h3, h4, h7, h10, h11, h12, h13⟩ := hst
    have H1 := Lib.hid h1
    have H2 := Lib.hid h2
    have H3 := Lib.hid h3
    have H4 := Lib.hid h4
    have H11 := Lib.hid h11
    have H12 := Lib.hid h12
    have H13 := Lib.hid h13
    have HN := Lib.hid hn
    clear h1 h2 h3 h4 h11 h12 h13 hn
    by_cases h0 : r2.length = 0
    · have hd : decide (0 < r2.length) = false := decide_eq_false (by omega)
      have hvg : val r1 = Nat.gcd (val xs) (val ys) := by have := H11.out; rw [(can_zero H4.out).1 h0, Nat.gcd_zero_right] at this; exact this
      have HM := Lib.hid (rmade_num false A1 c1 r1 wr (by omega) H1.out H3.out)
      rw [hvg] at HM
      clear h0 hvg
      go_wp2_with fail
      refine HM.out.mono ?_
      rintro e w3 ⟨s3, A3, n3, c3, rfl, hv3, hb3⟩
      have Z3 := Lib.hid (H12.out.below hb3)
      obtain ⟨q0, q1, z0, z1, zl⟩ := Z3.out.facts
      have HB3 := Lib.hid (H13.out.trans (hb3.mono H13.out.size))
      have HV3 := Lib.hid hv3
      clear hv3 hb3
      go_wp2
      obtain ⟨W4, hW4, Z, hb4, -, hv4, -, -⟩ := stored_world Z3.out HB3.out (by omega) s3 A3 n3 c3
      rw [hW4]
      have HV4 := Lib.hid (hv4 _ _ HV3.out)
      obtain ⟨c0, c1', -, -, -⟩ := Z.facts
      clear q0 q1 z0 z1 zl hW4 hv4
      refine bodyPost_ret (v := .agg #[.bool s3, .slice A3 n3 c3]) (by simp [results, Tryz.results103, go_sem, c0, c1']) rfl ?_
      exact ⟨_, _, _, _, rfl, HV4.out, hb4⟩
    · have hd : decide (0 < r2.length) = true := decide_eq_true (by omega)
      have HP := Lib.hid ((can_pos H4.out).1 (by omega))
      have HD := Lib.hid (rsplit_any A1 A2 c1 c2 r1 r2 wr H1.out H2.out H3.out.1 H4.out.1 (by omega) (by omega) HP.out)
      have N1 := Lib.hid (not_big_len H3.out h7)
      clear h0
      go_wp2_with fail
      refine HD.out.mono ?_
      rintro e w2 ⟨⟨q, r, rfl, ⟨A3, c3, r3, rfl, -, -, -, -⟩, ⟨A4, c4, r4, rfl, -, b3, b4, b5⟩⟩, hb2⟩
      have l4 : r4.length ≤ 64 := len_not_big b4 (by rw [b5]; exact fun h => N1.out (h.mono (Nat.mod_le _ _)))
      have HST2 : Hid (GstR w w2 A2 A4 r2 r4 (Nat.gcd (val xs) (val ys))) := Lib.hid ⟨H2.out.below hb2, b3, H4.out, b4, h10, l4, by rw [b5, ← gcd_step]; exact H11.out, H12.out.below hb2, H13.out.trans (hb2.mono H13.out.size)⟩
      have HLT : Hid (val r4 < gk) := Lib.hid (by rw [b5, ← HN.out]; exact Nat.mod_lt _ HP.out)
      clear b3 b4 b5 hb2
      go_wp2
      go_roundg (val r4)
      case measure => exact HLT.out
      case rel => exact ⟨A2, A4, c2, c4, r2, r4, rfl, rfl, HST2.out, rfl⟩

theorem egcd_int {va vb : Value} {x y : Int} {w : World} (ha : IntV w va x) (hb : IntV w vb y) (hx : ¬ BigI x) (hy : ¬ BigI y) : Calls Tryz.prog 86 #[va, vb] w (RetI w (Nat.gcd x.natAbs y.natAbs : Nat)) := by
  obtain ⟨A, ca, xs, rfl, h1, h2, h3, h4, h5⟩ := ha
  obtain ⟨B, cb, ys, rfl, k1, k2, k3, k4, k5⟩ := hb
  have l1 : xs.length ≤ 64 := len_not_big h4 (by rw [h5]; exact hx)
  have l2 : ys.length ≤ 64 := len_not_big k4 (by rw [k5]; exact hy)
  have h := egcd_any (decide (x < 0)) (decide (y < 0)) A B ca cb xs ys w h3 k3 h4 k4 h1 k1 h2 k2 l1 l2
  rw [h5, k5] at h
  exact h
theorem rgcd_int {va vb : Value} {x y : Int} {w : World} (ha : IntR w va x) (hb : IntR w vb y) (hx : ¬ BigI x) (hy : ¬ BigI y) : Calls Tryz.prog 103 #[va, vb] w (RetR w (Nat.gcd x.natAbs y.natAbs : Nat)) := by
  obtain ⟨A, ca, xs, rfl, h3, h4, h5⟩ := ha
  obtain ⟨B, cb, ys, rfl, k3, k4, k5⟩ := hb
  have l1 : xs.length ≤ 64 := len_not_big h4 (by rw [h5]; exact hx)
  have l2 : ys.length ≤ 64 := len_not_big k4 (by rw [k5]; exact hy)
  have h := rgcd_any (decide (x < 0)) (decide (y < 0)) A B ca cb xs ys w h3 k3 h4 k4 l1 l2
  rw [h5, k5] at h
  exact h

end LM
end Go.Proofs.YtpaefbojilnnnaaGreatDoor

namespace Go.Proofs.YtpaefbojilnnnaaGreatDoor
open Go.RowKit
namespace LM
set_option linter.unusedVariables false

def RPowE (w : World) (o : Option Int) (e : Ending) (w' : World) : Prop := ∃ s A n c er, e = .returned (.tuple #[.agg #[.bool s, .slice A n c], .int .i64 er]) ∧
  ((o = none ∧ er = 11 ∧ IntR w' (.agg #[.bool s, .slice A n c]) 0) ∨ (∃ z, o = some z ∧ er = 0 ∧ ¬ BigI z ∧ IntR w' (.agg #[.bool s, .slice A n c]) z)) ∧ Below w.heap.size w w'
def PwR (w wx : World) (g : Nat) (p a : Int) : Prop := ∃ s8 A8 n8 c8 s9 A9 n9 c9, w.heap.size + 1 + 1 < g ∧
  Bx wx g s8 A8 n8 c8 ∧ Bx wx w.heap.size s9 A9 n9 c9 ∧ Bx wx (w.heap.size + 1 + 1) false none 0 0 ∧ IntR wx (.agg #[.bool s8, .slice A8 n8 c8]) p ∧ IntR wx (.agg #[.bool s9, .slice A9 n9 c9]) a ∧ Below w.heap.size w wx

set_option maxRecDepth 100000 in
set_option maxHeartbeats 40000000 in
theorem rpow_go (s t : Bool) (A B : Option Addr) (n c m d : Nat) (a : Int) (k : Nat) (w : World) (ha : IntR w (.agg #[.bool s, .slice A n c]) a)
    (hs : ∀ W, Below w.heap.size w W → Calls Tryz.prog 159 #[.agg #[.bool t, .slice B m d]] W fun e w' => SmallE (k : Int) e ∧ Below W.heap.size W w') (na : ¬ BigI a) (hk : k ≤ 1000) :
    Calls Tryz.prog 104 #[.agg #[.bool s, .slice A n c], .agg #[.bool t, .slice B m d]] w (RPowE w (powI k 1 a)) := by
  obtain ⟨hb0, x0, y0, z0⟩ := new3 w s t A B n c m d
  have HB0 := Lib.hid hb0
  have XS0 := Lib.hid (((Bxs.nil.cons z0).cons y0).cons x0)
  have VA0 := Lib.hid (ha.keep hb0)
  have C1 := Lib.hid (hs _ hb0)
  have NA := Lib.hid na
  have d1 : decide ((k : Int) < 0) = false := decide_eq_false (by omega)
  have d2 : decide (1000 < (k : Int)) = false := decide_eq_false (by omega)
  have d3 : decide (1000 < k) = false := decide_eq_false (by omega)
  have HOF : Hid (∀ W, Calls Tryz.prog 108 #[.int .i64 1] W (RetR W 1)) := Lib.hid (rof2_int 1 (by decide) (by decide))
  clear hb0 x0 y0 z0 ha hs na
  go_enter Tryz.func104, Tryz.ntmps104
  go_wp2_with fail
  refine C1.out.mono ?_
  rintro e w1 ⟨he1, hb1⟩
  obtain rfl := he1.inn' (by omega) (by omega)
  have XS1 := Lib.hid (XS0.out.below hb1)
  have HB1 := Lib.hid (HB0.out.trans (hb1.mono HB0.out.size))
  have VA1 := Lib.hid (VA0.out.keep hb1)
  clear he1 hb1 XS0 HB0 VA0 C1
  go_wp2_with fail
  refine (HOF.out _).mono ?_
  rintro e w2 ⟨s2, A2, n2, c2, rfl, hv2, hb2⟩
  have hgg := (XS1.out.below hb2).tl.tl.hd.lt
  have XS2 := Lib.hid ((XS1.out.below hb2).new s2 A2 n2 c2)
  have VA2 := Lib.hid ((VA1.out.keep hb2).alloc (.cells #[.bool s2, .slice A2 n2 c2] 38))
  have V2 := Lib.hid (hv2.alloc (.cells #[.bool s2, .slice A2 n2 c2] 38))
  have hbk := bel_trans (B := w.heap.size) HB1.out hb2
  have HB2 : Hid (Below w.heap.size w (w2.alloc (.cells #[.bool s2, .slice A2 n2 c2] 38))) := Lib.hid (hbk.alloc hbk.size _)
  clear hv2 hb2 hbk d1 d2 d3 XS1 HB1 VA1 HOF
  go_wp2_with fail
  go_loopg [6] k (fun kk x6 wr => x6 = .int .i64 (kk : Int) ∧ kk ≤ 1000 ∧ ∃ p a', PwR w wr w2.heap.size p a' ∧ ¬ BigI p ∧ ¬ BigI a' ∧ powI kk p a' = powI k 1 a)
  case atStart => exact ⟨rfl, hk, 1, a, ⟨_, _, _, _, _, _, _, _, hgg, XS2.out.hd, XS2.out.tl.hd, XS2.out.tl.tl.tl.hd, V2.out, VA2.out, HB2.out⟩, small_not_big (by decide), NA.out, rfl⟩
  case round =>
    obtain ⟨rfl, hkk, p, a', hst, np, na, hpow⟩ := hrel
    clear XS2 VA2 V2 HB2
    have HP := Lib.hid hpow
    have NP := Lib.hid np
    have NA' := Lib.hid na
    obtain ⟨s8, A8, n8, c8, s9, A9, n9, c9, -, hx8, hx9, hxr, hv8, hv9, hb⟩ := hst
    have HX8 := Lib.hid hx8
    have HX9 := Lib.hid hx9
    have HXR := Lib.hid hxr
    have HV8 := Lib.hid hv8
    have HV9 := Lib.hid hv9
    have HB := Lib.hid hb
    clear hpow np na hx8 hx9 hxr hv8 hv9 hb
    by_cases ho : gk % 2 = 1
    · have e1 : ((gk : Int) % 2 == 1) = true := by rw [beq_iff_eq]; omega
      have HO := Lib.hid ho
      have M1 := Lib.hid (rtimes_int HV8.out HV9.out NP.out NA'.out)
      obtain ⟨x80, x81, x82, x83, x84⟩ := HX8.out.facts
      obtain ⟨x90, x91, x92, x93, x94⟩ := HX9.out.facts
      clear ho
      go_wp2_with fail
      refine M1.out.mono ?_
      rintro e w3 ⟨s3, A3, n3, c3, rfl, hv3, hb3⟩
      have Y8 := Lib.hid (HX8.out.below hb3)
      have Y9 := Lib.hid (HX9.out.below hb3)
      have YR := Lib.hid (HXR.out.below hb3)
      have HB3 := Lib.hid (bel_trans (B := w.heap.size) HB.out hb3)
      have VA3 := Lib.hid (HV9.out.keep hb3)
      clear x80 x81 x82 x83 x84 x90 x91 x92 x93 x94 hb3
      obtain ⟨x80, x81, x82, x83, x84⟩ := Y8.out.facts
      obtain ⟨W3, hW3, Z8, hbw, -, hvw, how, -⟩ := stored_world Y8.out HB3.out (by omega) s3 A3 n3 c3
      have X93 := Lib.hid (how _ _ _ _ _ (by omega) Y9.out)
      have XR3 := Lib.hid (how _ _ _ _ _ (by omega) YR.out)
      have X83 := Lib.hid Z8
      have HBW := Lib.hid hbw
      have V93 := Lib.hid (hvw _ _ VA3.out)
      have V83 := Lib.hid (hvw _ _ hv3)
      clear hbw hvw how Z8 hv3
      by_cases hbig : BigI (p * a')
      · have HPE := Lib.hid (HP.out.symm.trans (powI_odd_big HO.out hbig))
        have NB := Lib.hid hbig
        have l0 := V83.out.parts.2.2.2.2 NB.out
        have l1 : decide (64 < (n3 : Int)) = true := decide_eq_true (by omega)
        have l2 : decide (64 < n3) = true := decide_eq_true l0
        clear l0
        clear hbig
        obtain ⟨k0, k1, k2, k3, k4⟩ := X83.out.facts
        obtain ⟨V, hV, ZR, hbV, -, hvV, -, -⟩ := stored_world XR3.out HBW.out (by omega) false none 0 0
        obtain ⟨z0, z1, z2, z3, z4⟩ := ZR.facts
        obtain ⟨j0, j1, j2, j3, j4⟩ := XR3.out.facts
        have HBV := Lib.hid hbV
        have HVV := Lib.hid hvV
        clear hbV hvV
        go_wp2
        first | rw [hV] | skip
        refine bodyPost_ret (v := .tuple #[.agg #[.bool false, .slice none 0 0], .int .i64 11]) (by simp [results, Tryz.results104, go_sem, z0, z1]) rfl ?_
        exact ⟨_, _, _, _, _, rfl, .inl ⟨HPE.out, rfl, (intV_zero _).toR⟩, HBV.out⟩
      · have NPP := Lib.hid hbig
        clear hbig
        have l1 : decide (64 < (n3 : Int)) = false := decide_eq_false fun h => NPP.out (V83.out.parts.2.2.2.1 (by omega))
        have l2 : decide (64 < n3) = false := decide_eq_false fun h => NPP.out (V83.out.parts.2.2.2.1 h)
        obtain ⟨k0, k1, k2, k3, k4⟩ := X83.out.facts
        by_cases h2 : gk / 2 = 0
        · have e2 : ((gk : Int) / 2 == 0) = true := by rw [beq_iff_eq]; omega
          have HPE := Lib.hid (HP.out.symm.trans (powI_odd_end HO.out h2 NPP.out))
          obtain ⟨V, hV, ZR, hbV, -, hvV, -, -⟩ := stored_world XR3.out HBW.out (by omega) s3 A3 n3 c3
          obtain ⟨z0, z1, z2, z3, z4⟩ := ZR.facts
          obtain ⟨j0, j1, j2, j3, j4⟩ := XR3.out.facts
          have HBV := Lib.hid hbV
          have HVV := Lib.hid hvV
          clear hbV hvV
          go_wp2
          first | rw [hV] | skip
          refine bodyPost_ret (v := .tuple #[.agg #[.bool s3, .slice A3 n3 c3], .int .i64 0]) (by simp [results, Tryz.results104, go_sem, z0, z1]) rfl ?_
          exact ⟨_, _, _, _, _, rfl, .inr ⟨_, HPE.out, rfl, NPP.out, HVV.out _ _ V83.out⟩, HBV.out⟩
        · have e2 : ((gk : Int) / 2 == 0) = false := by rw [beq_eq_false_iff_ne]; omega
          have H2 := Lib.hid h2
          have M2 := Lib.hid (rtimes_int V93.out V93.out NA'.out NA'.out)
          obtain ⟨m0, m1, m2, m3, m4⟩ := X93.out.facts
          clear h2
          go_wp2_with fail
          refine M2.out.mono ?_
          rintro e w4 ⟨s4, A4, n4, c4, rfl, hv4, hb4⟩
          have Y8 := Lib.hid (X83.out.below hb4)
          have Y9 := Lib.hid (X93.out.below hb4)
          have YR := Lib.hid (XR3.out.below hb4)
          have HB4 := Lib.hid (bel_trans (B := w.heap.size) HBW.out hb4)
          have VP4 := Lib.hid (V83.out.keep hb4)
          clear k0 k1 k2 k3 k4 m0 m1 m2 m3 m4 l1 l2 hb4
          obtain ⟨k0, k1, k2, k3, k4⟩ := Y9.out.facts
          obtain ⟨W5, hW5, Z9, hb5, -, hv5, ho5, -⟩ := stored_world Y9.out HB4.out (by omega) s4 A4 n4 c4
          have X85 := Lib.hid (ho5 _ _ _ _ _ (by omega) Y8.out)
          have XR5 := Lib.hid (ho5 _ _ _ _ _ (by omega) YR.out)
          have X95 := Lib.hid Z9
          have HB5 := Lib.hid hb5
          have VP5 := Lib.hid (hv5 _ _ VP4.out)
          have V45 := Lib.hid (hv5 _ _ hv4)
          clear hb5 hv5 ho5 Z9 hv4
          obtain ⟨m0, m1, m2, m3, m4⟩ := X95.out.facts
          by_cases hbig : BigI (a' * a')
          · have HPE := Lib.hid (HP.out.symm.trans (powI_odd_sq HO.out H2.out NPP.out hbig))
            have NB := Lib.hid hbig
            have l0 := V45.out.parts.2.2.2.2 NB.out
            have l1 : decide (64 < (n4 : Int)) = true := decide_eq_true (by omega)
            have l2 : decide (64 < n4) = true := decide_eq_true l0
            clear l0
            clear hbig
            obtain ⟨V, hV, ZR, hbV, -, hvV, -, -⟩ := stored_world XR5.out HB5.out (by omega) false none 0 0
            obtain ⟨z0, z1, z2, z3, z4⟩ := ZR.facts
            obtain ⟨j0, j1, j2, j3, j4⟩ := XR5.out.facts
            have HBV := Lib.hid hbV
            have HVV := Lib.hid hvV
            clear hbV hvV
            go_wp2
            first | rw [hV] | skip
            refine bodyPost_ret (v := .tuple #[.agg #[.bool false, .slice none 0 0], .int .i64 11]) (by simp [results, Tryz.results104, go_sem, z0, z1]) rfl ?_
            exact ⟨_, _, _, _, _, rfl, .inl ⟨HPE.out, rfl, (intV_zero _).toR⟩, HBV.out⟩
          · have HPE := Lib.hid (HP.out.symm.trans (powI_odd_go HO.out H2.out NPP.out hbig))
            have NB := Lib.hid hbig
            have l1 : decide (64 < (n4 : Int)) = false := decide_eq_false fun h => NB.out (V45.out.parts.2.2.2.1 (by omega))
            have l2 : decide (64 < n4) = false := decide_eq_false fun h => NB.out (V45.out.parts.2.2.2.1 h)
            clear hbig
            go_wp2_with fail
            go_roundg (gk / 2)
            case measure => have := H2.out; omega
            case rel => exact ⟨by first | rfl | (congr 1), by omega, (p * a'), a' * a', ⟨_, _, _, _, _, _, _, _, hgg, X85.out, X95.out, XR5.out, VP5.out, V45.out, HB5.out⟩, NPP.out, NB.out, HPE.out.symm⟩
    · have e1 : ((gk : Int) % 2 == 1) = false := by rw [beq_eq_false_iff_ne]; omega
      have HO := Lib.hid ho
      clear ho
      have l1 : decide (64 < (n8 : Int)) = false := decide_eq_false fun h => NP.out (HV8.out.parts.2.2.2.1 (by omega))
      have l2 : decide (64 < n8) = false := decide_eq_false fun h => NP.out (HV8.out.parts.2.2.2.1 h)
      obtain ⟨k0, k1, k2, k3, k4⟩ := HX8.out.facts
      by_cases h2 : gk / 2 = 0
      · have e2 : ((gk : Int) / 2 == 0) = true := by rw [beq_iff_eq]; omega
        have HPE := Lib.hid (HP.out.symm.trans (powI_even_end HO.out h2 NP.out))
        obtain ⟨V, hV, ZR, hbV, -, hvV, -, -⟩ := stored_world HXR.out HB.out (by omega) s8 A8 n8 c8
        obtain ⟨z0, z1, z2, z3, z4⟩ := ZR.facts
        obtain ⟨j0, j1, j2, j3, j4⟩ := HXR.out.facts
        have HBV := Lib.hid hbV
        have HVV := Lib.hid hvV
        clear hbV hvV
        go_wp2
        first | rw [hV] | skip
        refine bodyPost_ret (v := .tuple #[.agg #[.bool s8, .slice A8 n8 c8], .int .i64 0]) (by simp [results, Tryz.results104, go_sem, z0, z1]) rfl ?_
        exact ⟨_, _, _, _, _, rfl, .inr ⟨_, HPE.out, rfl, NP.out, HVV.out _ _ HV8.out⟩, HBV.out⟩
      · have e2 : ((gk : Int) / 2 == 0) = false := by rw [beq_eq_false_iff_ne]; omega
        have H2 := Lib.hid h2
        have M2 := Lib.hid (rtimes_int HV9.out HV9.out NA'.out NA'.out)
        obtain ⟨m0, m1, m2, m3, m4⟩ := HX9.out.facts
        clear h2
        go_wp2_with fail
        refine M2.out.mono ?_
        rintro e w4 ⟨s4, A4, n4, c4, rfl, hv4, hb4⟩
        have Y8 := Lib.hid (HX8.out.below hb4)
        have Y9 := Lib.hid (HX9.out.below hb4)
        have YR := Lib.hid (HXR.out.below hb4)
        have HB4 := Lib.hid (bel_trans (B := w.heap.size) HB.out hb4)
        have VP4 := Lib.hid (HV8.out.keep hb4)
        clear k0 k1 k2 k3 k4 m0 m1 m2 m3 m4 l1 l2 hb4
        obtain ⟨k0, k1, k2, k3, k4⟩ := Y9.out.facts
        obtain ⟨W5, hW5, Z9, hb5, -, hv5, ho5, -⟩ := stored_world Y9.out HB4.out (by omega) s4 A4 n4 c4
        have X85 := Lib.hid (ho5 _ _ _ _ _ (by omega) Y8.out)
        have XR5 := Lib.hid (ho5 _ _ _ _ _ (by omega) YR.out)
        have X95 := Lib.hid Z9
        have HB5 := Lib.hid hb5
        have VP5 := Lib.hid (hv5 _ _ VP4.out)
        have V45 := Lib.hid (hv5 _ _ hv4)
        clear hb5 hv5 ho5 Z9 hv4
        obtain ⟨m0, m1, m2, m3, m4⟩ := X95.out.facts
        by_cases hbig : BigI (a' * a')
        · have HPE := Lib.hid (HP.out.symm.trans (powI_even_sq HO.out H2.out NP.out hbig))
          have NB := Lib.hid hbig
          have l0 := V45.out.parts.2.2.2.2 NB.out
          have l1 : decide (64 < (n4 : Int)) = true := decide_eq_true (by omega)
          have l2 : decide (64 < n4) = true := decide_eq_true l0
          clear l0
          clear hbig
          obtain ⟨V, hV, ZR, hbV, -, hvV, -, -⟩ := stored_world XR5.out HB5.out (by omega) false none 0 0
          obtain ⟨z0, z1, z2, z3, z4⟩ := ZR.facts
          obtain ⟨j0, j1, j2, j3, j4⟩ := XR5.out.facts
          have HBV := Lib.hid hbV
          have HVV := Lib.hid hvV
          clear hbV hvV
          go_wp2
          first | rw [hV] | skip
          refine bodyPost_ret (v := .tuple #[.agg #[.bool false, .slice none 0 0], .int .i64 11]) (by simp [results, Tryz.results104, go_sem, z0, z1]) rfl ?_
          exact ⟨_, _, _, _, _, rfl, .inl ⟨HPE.out, rfl, (intV_zero _).toR⟩, HBV.out⟩
        · have HPE := Lib.hid (HP.out.symm.trans (powI_even_go HO.out H2.out NP.out hbig))
          have NB := Lib.hid hbig
          have l1 : decide (64 < (n4 : Int)) = false := decide_eq_false fun h => NB.out (V45.out.parts.2.2.2.1 (by omega))
          have l2 : decide (64 < n4) = false := decide_eq_false fun h => NB.out (V45.out.parts.2.2.2.1 h)
          clear hbig
          go_wp2_with fail
          go_roundg (gk / 2)
          case measure => have := H2.out; omega
          case rel => exact ⟨by first | rfl | (congr 1), by omega, p, a' * a', ⟨_, _, _, _, _, _, _, _, hgg, X85.out, X95.out, XR5.out, VP5.out, V45.out, HB5.out⟩, NP.out, NB.out, HPE.out.symm⟩

end LM
end Go.Proofs.YtpaefbojilnnnaaGreatDoor
