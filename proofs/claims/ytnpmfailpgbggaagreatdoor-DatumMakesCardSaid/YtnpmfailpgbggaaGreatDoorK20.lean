/- Walks: the document's Of once more, with what is known of the room. -/
import Derived.Test.YtnpmfailpgbggaaGreatDoorK08
import Derived.Test.YtnpmfailpgbggaaGreatDoorK18
import Derived.Deep.RegionHeld3
import Derived.Test.YtnpmfailpgbggaaGreatDoorK17
import Derived.Test.YtnpmfailpgbggaaGreatDoorK19
import Derived.Test.YtnpmfailpgbggaaGreatDoorK07
import Derived.Test.YtnpmfailpgbggaaGreatDoorK21
import Derived.LoopTactic
import Derived.Deep.LoopGhost
import Derived.Deep.DeepCutAuto
import Derived.WalkMore
import Derived.ScopeJumps
import Derived.Deep.QuietTactic
import Derived.BigQuiet
namespace Go.Proofs.YtnpmfailpgbggaaGreatDoor
open Go.RowKit
namespace LM
set_option linter.unusedVariables false

/-- small enough for the document's own sums and products -/
def FitI (z : Int) : Prop := z.natAbs < 4294967296 ^ 130
theorem fit_of {z : Int} (h : ¬ BigI z) : FitI z := by
  have h1 : z.natAbs < 4294967296 ^ 64 := Nat.lt_of_not_le h
  exact Nat.lt_of_lt_of_le h1 (Nat.pow_le_pow_right (by decide) (by decide))
theorem fit_len {r : List Nat} {z : Int} (hc : Can r) (hv : val r = z.natAbs) (hf : FitI z) : r.length ≤ 130 := by
  rcases Nat.lt_or_ge 130 r.length with h | h
  · have := (can_len hc 130).1 h
    rw [hv] at this
    exact absurd hf (by unfold FitI; omega)
  · exact h
theorem newc1 (w : World) : Below w.heap.size w (w.alloc (.cells #[.bool false, .slice none 0 0] 25)) ∧ Bx (w.alloc (.cells #[.bool false, .slice none 0 0] 25)) w.heap.size false none 0 0 :=
  ⟨(Below.refl _ w).alloc (Nat.le_refl _) _, Bx.new w false none 0 0⟩
/-- a call that answers a whole number in new memory, whatever its room -/
def RetR (w : World) (z : Int) (e : Ending) (w' : World) : Prop := ∃ s A n c, e = .returned (.agg #[.bool s, .slice A n c]) ∧ IntR w' (.agg #[.bool s, .slice A n c]) z ∧ Below w.heap.size w w'
theorem IntR.bx {w : World} {v : Value} {z : Int} (h : IntR w v z) : ∃ A n c, v = .agg #[.bool (decide (z < 0)), .slice A n c] := by
  obtain ⟨A, c, r, e, _⟩ := h
  exact ⟨A, _, c, e⟩
theorem IntR.parts {w : World} {b : Bool} {A : Option Addr} {n c : Nat} {z : Int} (h : IntR w (.agg #[.bool b, .slice A n c]) z) : b = decide (z < 0) ∧ (n = 0 ↔ z = 0) ∧ (FitI z → n ≤ 130) ∧ (64 < n ↔ BigI z) := by
  obtain ⟨A', c', r, e, h3, h4, h5⟩ := h
  simp only [Value.agg.injEq, Array.mk.injEq, List.cons.injEq, Value.bool.injEq, Value.slice.injEq, and_true] at e
  obtain ⟨rfl, rfl, rfl, rfl⟩ := e
  refine ⟨rfl, by rw [can_zero h4, h5]; omega, fun hf => fit_len h4 h5 hf, ?_⟩
  unfold BigI
  rw [big_iff h4, h5]
theorem IntR.alloc {w : World} {v : Value} {z : Int} (h : IntR w v z) (o : Obj) : IntR (w.alloc o) v z := h.keep ((Below.refl _ _).alloc (Nat.le_refl _) _)
theorem IntR.drew {w : World} {v : Value} {z : Int} (h : IntR w v z) : IntR w.drew v z := h.keep (Below.refl _ _).drew

set_option maxRecDepth 100000 in
set_option maxHeartbeats 1000000 in
theorem rmade_nil (neg : Bool) (A : Option Addr) (c : Nat) (w : World) :
    Calls Tryz.prog 99 #[.bool neg, .slice A 0 c] w (RetR w 0) := by
  obtain ⟨hb0, x0⟩ := newc1 w
  have HB0 := Lib.hid hb0
  have X0 := Lib.hid x0
  clear hb0 x0
  go_enter Tryz.func99, Tryz.ntmps99
  go_wp2
  refine bodyPost_ret (v := .agg #[.bool false, .slice none 0 0]) (by simp [results, Tryz.results99, go_sem]) rfl ?_
  exact ⟨_, _, _, _, rfl, ⟨none, 0, [], rfl, Rd.nil, can_nil, rfl⟩, HB0.out⟩

set_option maxRecDepth 100000 in
set_option maxHeartbeats 1000000 in
theorem rmade_some (neg : Bool) (A : Option Addr) (c : Nat) (r : List Nat) (w : World) (h0 : 0 < r.length) (hl : r.length ≤ 10000) (h3 : Rd w A r) (h4 : Can r) :
    Calls Tryz.prog 99 #[.bool neg, .slice A r.length c] w (RetR w (sg neg (val r))) := by
  have hz : ((r.length : Int) == 0) = false := by simp; intro h; rw [h] at h0; simp at h0
  have HR := Lib.hid (h3.alloc (.cells #[.bool neg, .slice A r.length c] 25))
  have HP := Lib.hid ((can_pos h4).1 h0)
  have HC := Lib.hid h4
  clear h0 h3 h4
  go_enter Tryz.func99, Tryz.ntmps99
  go_wp2
  refine bodyPost_ret (v := .agg #[.bool neg, .slice A r.length c]) (by simp [results, Tryz.results99, go_sem]) rfl ?_
  refine ⟨_, _, _, _, rfl, ⟨A, c, r, ?_, HR.out, HC.out, (sg_abs _ _).symm⟩, (Below.refl _ _).alloc (Nat.le_refl _) _⟩
  rw [sg_neg, decide_eq_true HP.out, Bool.and_true]

theorem rmade_num (neg : Bool) (A : Option Addr) (c : Nat) (r : List Nat) (w : World) (hl : r.length ≤ 10000) (h3 : Rd w A r) (h4 : Can r) :
    Calls Tryz.prog 99 #[.bool neg, .slice A r.length c] w (RetR w (sg neg (val r))) := by
  rcases Nat.eq_zero_or_pos r.length with h | h
  · have hv : val r = 0 := (can_zero h4).1 h
    rw [h, hv, sg_zero]
    exact rmade_nil neg A c w
  · exact rmade_some neg A c r w h hl h3 h4

theorem sg_self2 {z : Int} {n : Nat} (h : n = z.natAbs) : sg (decide (z < 0)) n = z := by rw [h, sg_of]
/-- the document's answer, capped -/
def RetC (w : World) (z : Int) (e : Ending) (w' : World) : Prop := ∃ s A n c er, e = .returned (.tuple #[.agg #[.bool s, .slice A n c], .int .i64 er]) ∧
  ((BigI z ∧ er = 11 ∧ IntR w' (.agg #[.bool s, .slice A n c]) 0) ∨ (¬ BigI z ∧ er = 0 ∧ IntR w' (.agg #[.bool s, .slice A n c]) z)) ∧ Below w.heap.size w w'
theorem intR_nil (w : World) : IntR w (.agg #[.bool false, .slice none 0 0]) 0 := ⟨none, 0, [], rfl, Rd.nil, can_nil, rfl⟩

set_option maxRecDepth 100000 in
set_option maxHeartbeats 1000000 in
theorem rsame2_diff (s t : Bool) (hst : ¬ s = t) (A B : Option Addr) (ca cb : Nat) (xs ys : List Nat) (w : World) (ha : Rd w A xs) (hb : Rd w B ys) (hxl : xs.length ≤ 1000000) :
    Calls Tryz.prog 63 #[.agg #[.bool s, .slice A xs.length ca], .agg #[.bool t, .slice B ys.length cb]] w fun e w' => e = .returned (.bool (false)) ∧ Below w.heap.size w w' := by
  have heq : (s == t) = false := by simp; exact hst
  obtain ⟨hb0, x0, y0⟩ := newp2 w s t A B xs.length ca ys.length cb
  have HB0 := Lib.hid hb0
  have H1 := Lib.hid (same_any A B ca cb xs ys _ (ha.below hb0) (hb.below hb0) hxl)
  clear hb0 x0 y0 ha hb hst
  go_enter Tryz.func63, Tryz.ntmps63
  go_wp2
  go_ret
  exact ⟨rfl, HB0.out⟩

set_option maxRecDepth 100000 in
set_option maxHeartbeats 1000000 in
theorem rsame2_same (s : Bool)  (A B : Option Addr) (ca cb : Nat) (xs ys : List Nat) (w : World) (ha : Rd w A xs) (hb : Rd w B ys) (hxl : xs.length ≤ 1000000) :
    Calls Tryz.prog 63 #[.agg #[.bool s, .slice A xs.length ca], .agg #[.bool s, .slice B ys.length cb]] w fun e w' => e = .returned (.bool (sameB xs ys)) ∧ Below w.heap.size w w' := by
  have heq : (s == s) = true := by simp
  obtain ⟨hb0, x0, y0⟩ := newp2 w s s A B xs.length ca ys.length cb
  have HB0 := Lib.hid hb0
  have H1 := Lib.hid (same_any A B ca cb xs ys _ (ha.below hb0) (hb.below hb0) hxl)
  clear hb0 x0 y0 ha hb
  go_enter Tryz.func63, Tryz.ntmps63
  go_wp2_with fail
  refine H1.out.mono ?_
  rintro e w2 ⟨rfl, hb2⟩
  have HB2 := Lib.hid (HB0.out.trans (hb2.mono HB0.out.size))
  clear hb2
  go_wp2
  go_ret
  exact ⟨rfl, HB2.out⟩

theorem rsame2_int {va vb : Value} {x y : Int} {w : World} (ha : IntR w va x) (hb : IntR w vb y) (hx : FitI x) : Calls Tryz.prog 63 #[va, vb] w fun e w' => e = .returned (.bool (decide (x = y))) ∧ Below w.heap.size w w' := by
  obtain ⟨A, ca, xs, rfl, h3, h4, h5⟩ := ha
  obtain ⟨B, cb, ys, rfl, k3, k4, k5⟩ := hb
  have l1 := fit_len h4 h5 hx
  by_cases hs : decide (x < 0) = decide (y < 0)
  · have h := rsame2_same (decide (x < 0)) A B ca cb xs ys w h3 k3 (by omega)
    have he : sameB xs ys = decide (x = y) := by
      unfold sameB
      refine decide_eq_decide.2 ⟨fun e => ?_, fun e => can_ext h4 k4 (by rw [h5, k5, e])⟩
      have e1 := sg_self2 h5
      have e2 := sg_self2 k5
      rw [← e1, ← e2, hs, e]
    rw [he] at h
    rw [← hs]
    exact h
  · have h := rsame2_diff (decide (x < 0)) (decide (y < 0)) hs A B ca cb xs ys w h3 k3 (by omega)
    rw [show decide (x = y) = false from decide_eq_false fun e => hs (by rw [e])]
    exact h
/-- structs that lie in these blocks -/
def Bxs (w : World) (L : List (Nat × Bool × Option Addr × Nat × Nat)) : Prop := ∀ p ∈ L, Bx w p.1 p.2.1 p.2.2.1 p.2.2.2.1 p.2.2.2.2
/-- values that read as these whole numbers -/
def Rs (w : World) (L : List (Value × Int)) : Prop := ∀ p ∈ L, IntR w p.1 p.2
section
variable {w w' : World} {L : List (Nat × Bool × Option Addr × Nat × Nat)} {M : List (Value × Int)}
theorem Bxs.nil : Bxs w [] := fun p h => by cases h
theorem Bxs.cons {g : Nat} {b : Bool} {A : Option Addr} {n c : Nat} (h : Bx w g b A n c) (hs : Bxs w L) : Bxs w ((g, b, A, n, c) :: L) := fun p hp => by
  rcases List.mem_cons.1 hp with rfl | hp
  · exact h
  · exact hs p hp
theorem Bxs.below (h : Bxs w L) (hb : Below w.heap.size w w') : Bxs w' L := fun p hp => (h p hp).below hb
theorem Bxs.alloc (h : Bxs w L) (o : Obj) : Bxs (w.alloc o) L := fun p hp => (h p hp).alloc o
theorem Bxs.drew (h : Bxs w L) : Bxs w.drew L := h
theorem Bxs.new (h : Bxs w L) (b : Bool) (A : Option Addr) (n c : Nat) : Bxs (w.alloc (.cells #[.bool b, .slice A n c] 25)) ((w.heap.size, b, A, n, c) :: L) := (h.alloc _).cons (Bx.new w b A n c)
theorem Bxs.hd {g : Nat} {b : Bool} {A : Option Addr} {n c : Nat} (h : Bxs w ((g, b, A, n, c) :: L)) : Bx w g b A n c := h _ (List.mem_cons_self ..)
theorem Bxs.tl {p : Nat × Bool × Option Addr × Nat × Nat} (h : Bxs w (p :: L)) : Bxs w L := fun q hq => h q (List.mem_cons_of_mem _ hq)
theorem Rs.nil : Rs w [] := fun p h => by cases h
theorem Rs.cons {v : Value} {z : Int} (h : IntR w v z) (hs : Rs w M) : Rs w ((v, z) :: M) := fun p hp => by
  rcases List.mem_cons.1 hp with rfl | hp
  · exact h
  · exact hs p hp
theorem Rs.keep (h : Rs w M) (hb : Below w.heap.size w w') : Rs w' M := fun p hp => (h p hp).keep hb
theorem Rs.alloc (h : Rs w M) (o : Obj) : Rs (w.alloc o) M := fun p hp => (h p hp).alloc o
theorem Rs.drew (h : Rs w M) : Rs w.drew M := h.keep (Below.refl _ _).drew
theorem Rs.hd {v : Value} {z : Int} (h : Rs w ((v, z) :: M)) : IntR w v z := h _ (List.mem_cons_self ..)
theorem Rs.tl {p : Value × Int} (h : Rs w (p :: M)) : Rs w M := fun q hq => h q (List.mem_cons_of_mem _ hq)
end
/-- the outcome of a reckoning that may be too great, by one number -/
def Out (z zr er : Int) : Prop := (BigI z ∧ er = 11 ∧ zr = 0) ∨ (¬ BigI z ∧ er = 0 ∧ zr = z)
theorem Out.same {z a b e f : Int} (h : Out z a e) (k : Out z b f) : a = b ∧ e = f := by
  rcases h with ⟨h1, rfl, rfl⟩ | ⟨h1, rfl, rfl⟩ <;> rcases k with ⟨k1, rfl, rfl⟩ | ⟨k1, rfl, rfl⟩
  · exact ⟨rfl, rfl⟩
  · exact absurd h1 k1
  · exact absurd k1 h1
  · exact ⟨rfl, rfl⟩
theorem RetE.out {w w' : World} {z : Int} {e : Ending} (h : RetE w z e w') : ∃ s A n c er zr, e = .returned (.tuple #[.agg #[.bool s, .slice A n c], .int .i64 er]) ∧ IntV w' (.agg #[.bool s, .slice A n c]) zr ∧ Out z zr er ∧ Below w.heap.size w w' := by
  obtain ⟨s, A, n, c, er, rfl, ⟨h1, h2, h3⟩ | ⟨h1, h2, h3⟩, hb⟩ := h
  · exact ⟨s, A, n, c, er, 0, rfl, h3, .inl ⟨h1, h2, rfl⟩, hb⟩
  · exact ⟨s, A, n, c, er, z, rfl, h3, .inr ⟨h1, h2, rfl⟩, hb⟩
theorem RetC.out {w w' : World} {z : Int} {e : Ending} (h : RetC w z e w') : ∃ s A n c er zr, e = .returned (.tuple #[.agg #[.bool s, .slice A n c], .int .i64 er]) ∧ IntR w' (.agg #[.bool s, .slice A n c]) zr ∧ Out z zr er ∧ Below w.heap.size w w' := by
  obtain ⟨s, A, n, c, er, rfl, ⟨h1, h2, h3⟩ | ⟨h1, h2, h3⟩, hb⟩ := h
  · exact ⟨s, A, n, c, er, 0, rfl, h3, .inl ⟨h1, h2, rfl⟩, hb⟩
  · exact ⟨s, A, n, c, er, z, rfl, h3, .inr ⟨h1, h2, rfl⟩, hb⟩
end LM
end Go.Proofs.YtnpmfailpgbggaaGreatDoor

namespace Go.Proofs.YtnpmfailpgbggaaGreatDoor
open Go.RowKit
namespace LM
set_option linter.unusedVariables false

/-- what a division comes to -/
def QOut (x y q r e : Int) : Prop := (y = 0 ∧ e = 12 ∧ q = 0 ∧ r = 0) ∨ (y ≠ 0 ∧ e = 0 ∧ q = quoI x y ∧ r = remI x y)
def MOut (x y m e : Int) : Prop := (y = 0 ∧ e = 12 ∧ m = 0) ∨ (y ≠ 0 ∧ e = 0 ∧ m = modI x y)
theorem QOut.same {x y a b c d e f : Int} (h : QOut x y a b e) (k : QOut x y c d f) : a = c ∧ b = d ∧ e = f := by
  rcases h with ⟨h1, rfl, rfl, rfl⟩ | ⟨h1, rfl, rfl, rfl⟩ <;> rcases k with ⟨k1, rfl, rfl, rfl⟩ | ⟨k1, rfl, rfl, rfl⟩
  · exact ⟨rfl, rfl, rfl⟩
  · exact absurd h1 k1
  · exact absurd k1 h1
  · exact ⟨rfl, rfl, rfl⟩
theorem MOut.same {x y a b e f : Int} (h : MOut x y a e) (k : MOut x y b f) : a = b ∧ e = f := by
  rcases h with ⟨h1, rfl, rfl⟩ | ⟨h1, rfl, rfl⟩ <;> rcases k with ⟨k1, rfl, rfl⟩ | ⟨k1, rfl, rfl⟩
  · exact ⟨rfl, rfl⟩
  · exact absurd h1 k1
  · exact absurd k1 h1
  · exact ⟨rfl, rfl⟩
theorem RetQ.out {w w' : World} {x y : Int} {e : Ending} (h : RetQ w x y e w') : ∃ s A n c s' A' n' c' er q r, e = .returned (.tuple #[.agg #[.bool s, .slice A n c], .agg #[.bool s', .slice A' n' c'], .int .i64 er]) ∧
    IntV w' (.agg #[.bool s, .slice A n c]) q ∧ IntV w' (.agg #[.bool s', .slice A' n' c']) r ∧ QOut x y q r er ∧ Below w.heap.size w w' := by
  obtain ⟨s, A, n, c, s', A', n', c', er, rfl, ⟨h1, h2, h3, h4⟩ | ⟨h1, h2, h3, h4⟩, hb⟩ := h
  · exact ⟨s, A, n, c, s', A', n', c', er, 0, 0, rfl, h3, h4, .inl ⟨h1, h2, rfl, rfl⟩, hb⟩
  · exact ⟨s, A, n, c, s', A', n', c', er, _, _, rfl, h3, h4, .inr ⟨h1, h2, rfl, rfl⟩, hb⟩
theorem RetM.out {w w' : World} {x y : Int} {e : Ending} (h : RetM w x y e w') : ∃ s A n c er m, e = .returned (.tuple #[.agg #[.bool s, .slice A n c], .int .i64 er]) ∧ IntV w' (.agg #[.bool s, .slice A n c]) m ∧ MOut x y m er ∧ Below w.heap.size w w' := by
  obtain ⟨s, A, n, c, er, rfl, ⟨h1, h2, h3⟩ | ⟨h1, h2, h3⟩, hb⟩ := h
  · exact ⟨s, A, n, c, er, 0, rfl, h3, .inl ⟨h1, h2, rfl⟩, hb⟩
  · exact ⟨s, A, n, c, er, _, rfl, h3, .inr ⟨h1, h2, rfl⟩, hb⟩
end LM
end Go.Proofs.YtnpmfailpgbggaaGreatDoor

namespace Go.Proofs.YtnpmfailpgbggaaGreatDoor
open Go.RowKit
namespace LM
set_option linter.unusedVariables false

/-- blocks, and two whole numbers that abide -/
def Qs (w W : World) (L : List (Nat × Bool × Option Addr × Nat × Nat)) (v1 va : Value) (p a : Int) : Prop := Bxs W L ∧ IntV W v1 p ∧ IntV W va a ∧ Below w.heap.size w W
section
variable {w W : World} {L : List (Nat × Bool × Option Addr × Nat × Nat)} {v1 va : Value} {p a : Int}
theorem Qs.new (h : Qs w W L v1 va p a) (b : Bool) (A : Option Addr) (n c g : Nat) (hg : g = W.heap.size) : Qs w (W.alloc (.cells #[.bool b, .slice A n c] 25)) ((g, b, A, n, c) :: L) v1 va p a := by
  subst hg
  exact ⟨h.1.new b A n c, h.2.1.alloc _, h.2.2.1.alloc _, h.2.2.2.alloc h.2.2.2.size _⟩
end
theorem bel_trans {B : Nat} {w W w2 : World} (h : Below B w W) (hb : Below W.heap.size W w2) (hB : B ≤ w.heap.size := by exact Nat.le_refl _) : Below B w w2 := h.trans (hb.mono (Nat.le_trans hB h.size))
section
variable {w w2 : World} {K : Nat} {s s2 b1 b2 : Bool} {A A2 A1 B2 : Option Addr} {n c n2 c2 n1 c1 m2 d2 : Nat} {p a : Int}
end


end LM
end Go.Proofs.YtnpmfailpgbggaaGreatDoor

namespace Go.Proofs.YtnpmfailpgbggaaGreatDoor
open Go Go.RowKit
namespace LM
set_option linter.unusedVariables false

/-- a number's block -/
def Nx (w : World) (g : Nat) (fl : Bool) (f : Nat) (s : Bool) (A : Option Addr) (n c : Nat) : Prop := w.heap[g]? = some (.cells #[.bool fl, .float .f64 f, .bool s, .slice A n c] 27 (0, 0))
section
variable {w w' w2 : World} {g B : Nat} {fl : Bool} {f : Nat} {s : Bool} {A : Option Addr} {n c : Nat}
theorem Nx.lt (h : Nx w g fl f s A n c) : g < w.heap.size := by
  rcases Nat.lt_or_ge g w.heap.size with hlt | hge
  · exact hlt
  · unfold Nx at h; rw [Array.getElem?_eq_none hge] at h; cases h
theorem Nx.facts (h : Nx w g fl f s A n c) :
    w.cell? ⟨g, 0, none⟩ = some (.bool fl) ∧ w.cell? ⟨g, 1, none⟩ = some (.float .f64 f) ∧ w.cell? ⟨g, 2, none⟩ = some (.bool s) ∧ w.cell? ⟨g, 3, none⟩ = some (.slice A n c) ∧
    w.frozen? ⟨g, 0, none⟩ = false ∧ w.frozen? ⟨g, 1, none⟩ = false ∧ w.frozen? ⟨g, 2, none⟩ = false ∧ w.frozen? ⟨g, 3, none⟩ = false ∧ g < w.heap.size := by
  have hl := h.lt
  unfold Nx at h
  exact ⟨by simp [World.cell?, h], by simp [World.cell?, h], by simp [World.cell?, h], by simp [World.cell?, h], by simp [World.frozen?, h], by simp [World.frozen?, h], by simp [World.frozen?, h], by simp [World.frozen?, h], hl⟩
theorem Nx.keep (h : Nx w g fl f s A n c) (hb : Below B w w') (hg : g < B) : Nx w' g fl f s A n c := (hb.block _ hg).trans h
theorem Nx.below (h : Nx w g fl f s A n c) (hb : Below w.heap.size w w') : Nx w' g fl f s A n c := h.keep hb h.lt
theorem Nx.new (w : World) (fl : Bool) (f : Nat) (s : Bool) (A : Option Addr) (n c : Nat) : Nx (w.alloc (.cells #[.bool fl, .float .f64 f, .bool s, .slice A n c] 27)) w.heap.size fl f s A n c := by
  unfold Nx World.alloc
  simp
theorem Nx.alloc (h : Nx w g fl f s A n c) (o : Obj) : Nx (w.alloc o) g fl f s A n c := (Below.heap_alloc w o _ h.lt).trans h
theorem Nx.drew (h : Nx w g fl f s A n c) : Nx w.drew g fl f s A n c := h
theorem Nx.drewN (h : Nx w g fl f s A n c) (k : Nat) : Nx (w.drewN k) g fl f s A n c := h
theorem Nx.set (h : Nx w g fl f s A n c) {p : Addr} (v : Value) (hp : g ≠ p.block) : Nx (w.setCell p v) g fl f s A n c := (heap_setCell_other w p g v hp).trans h
theorem Nx.stored (h : Nx w g fl f s A n c) (fl' : Bool) (f' : Nat) (s' : Bool) (A' : Option Addr) (n' c' : Nat) :
    Nx ((((w.setCell ⟨g, 0, none⟩ (.bool fl')).setCell ⟨g, 1, none⟩ (.float .f64 f')).setCell ⟨g, 2, none⟩ (.bool s')).setCell ⟨g, 3, none⟩ (.slice A' n' c')) g fl' f' s' A' n' c' := by
  have h1 := heap_setCell_same w g 0 _ _ (.bool fl') h
  have h2 := heap_setCell_same _ g 1 _ _ (.float .f64 f') h1
  have h3 := heap_setCell_same _ g 2 _ _ (.bool s') h2
  have h4 := heap_setCell_same _ g 3 _ _ (.slice A' n' c') h3
  exact h4.trans rfl
theorem Rd.offNx {A' : Option Addr} {xs : List Nat} (h : Rd w A' xs) (hb : Nx w g fl f s A n c) (hx : 0 < xs.length) : Off A' g := by
  intro ad e e2
  obtain ⟨k, off, e3, hlt, hc⟩ := h hx
  rw [e3] at e
  injection e with e
  subst e
  obtain rfl : k = g := e2
  have h0 := hc 0 hx
  unfold Nx at hb
  simp only [World.cell?, hb] at h0
  have : off = 0 ∨ off = 1 ∨ off = 2 ∨ off = 3 ∨ 4 ≤ off := by omega
  rcases this with rfl | rfl | rfl | rfl | h2
  · simp at h0
  · simp at h0
  · simp at h0
  · simp at h0
  · rw [Array.getElem?_eq_none (by simp; omega)] at h0
    simp at h0
/-- four cells of a number's block are stored -/
abbrev set4 (w : World) (g : Nat) (a b d e : Value) : World := (((w.setCell ⟨g, 0, none⟩ a).setCell ⟨g, 1, none⟩ b).setCell ⟨g, 2, none⟩ d).setCell ⟨g, 3, none⟩ e
theorem Rd.stored4 {A' : Option Addr} {xs : List Nat} (h : Rd w A' xs) (hb : Nx w g fl f s A n c) (a b d e : Value) : Rd (set4 w g a b d e) A' xs := fun hx =>
  ((((h.setCell (p := ⟨g, 0, none⟩) (h.offNx hb hx) a).setCell (p := ⟨g, 1, none⟩) (h.offNx hb hx) b).setCell (p := ⟨g, 2, none⟩) (h.offNx hb hx) d).setCell (p := ⟨g, 3, none⟩) (h.offNx hb hx) e) hx
theorem IntV.stored4 {v : Value} {z : Int} (h : IntV w v z) (hb : Nx w g fl f s A n c) (a b d e : Value) : IntV (set4 w g a b d e) v z := by
  obtain ⟨A, c, r, e, h1, h2, h3, h4, h5⟩ := h
  exact ⟨A, c, r, e, h1, h2, h3.stored4 hb _ _ _ _, h4, h5⟩
theorem IntR.stored4 {v : Value} {z : Int} (h : IntR w v z) (hb : Nx w g fl f s A n c) (a b d e : Value) : IntR (set4 w g a b d e) v z := by
  obtain ⟨A, c, r, e, h3, h4, h5⟩ := h
  exact ⟨A, c, r, e, h3.stored4 hb _ _ _ _, h4, h5⟩
theorem below_stored4 (h : Below B w w2) (hg : B ≤ g) (a b d e : Value) : Below B w (set4 w2 g a b d e) :=
  (((h.setCell (p := ⟨g, 0, none⟩) hg a).setCell (p := ⟨g, 1, none⟩) hg b).setCell (p := ⟨g, 2, none⟩) hg d).setCell (p := ⟨g, 3, none⟩) hg e
/-- the world behind a store into a number's variable, under a name of its own -/
theorem stored_num (Y : Nx w2 g fl f s A n c) (hb : Below B w w2) (hg : B ≤ g) (fl' : Bool) (f' : Nat) (s' : Bool) (A' : Option Addr) (n' c' : Nat) :
    ∃ W, (((w2.setCell ⟨g, 0, none⟩ (.bool fl')).setCell ⟨g, 1, none⟩ (.float .f64 f')).setCell ⟨g, 2, none⟩ (.bool s')).setCell ⟨g, 3, none⟩ (.slice A' n' c') = W ∧ Nx W g fl' f' s' A' n' c' ∧ Below B w W ∧ (∀ v z, IntV w2 v z → IntV W v z) ∧ (∀ v z, IntR w2 v z → IntR W v z) :=
  ⟨_, rfl, Y.stored _ _ _ _ _ _, below_stored4 hb hg _ _ _ _, fun _ _ h => h.stored4 Y _ _ _ _, fun _ _ h => h.stored4 Y _ _ _ _⟩
end

theorem run_store_flt (P : Program) (w : World) (a : Addr) (m : Mode) (k : FloatKind) (b : Nat) : (store a (.float k b) m).run P w = stored P w a (.float k b) m := run_store P w a _ m rfl
attribute [local go_sem] run_store_flt

/-- what comes out of a call that gives an exact number -/
def RetN (w : World) (z : Int) (e : Ending) (w' : World) : Prop := ∃ s A n c, e = .returned (.agg #[.bool false, .float .f64 0, .bool s, .slice A n c]) ∧ IntV w' (.agg #[.bool s, .slice A n c]) z ∧ Below w.heap.size w w'

set_option maxRecDepth 100000 in
set_option maxHeartbeats 2000000 in
theorem twhole_any (s : Bool) (A : Option Addr) (n c : Nat) (w : World) :
    Calls Tryz.prog 64 #[.agg #[.bool s, .slice A n c]] w fun e w' => e = .returned (.agg #[.bool false, .float .f64 0, .bool s, .slice A n c]) ∧ Below w.heap.size w w' ∧ (∀ v z, IntV w v z → IntV w' v z) := by
  go_enter Tryz.func64, Tryz.ntmps64
  go_wp2_with (fail)
  refine bodyPost_ret (v := .agg #[.bool false, .float .f64 0, .bool s, .slice A n c]) (by simp [results, Tryz.results64, go_sem]) rfl ?_
  exact ⟨rfl, ((Below.refl _ w).alloc (Nat.le_refl _) _).alloc (by simp) _, fun v z h => (h.alloc _).alloc _⟩

end LM
end Go.Proofs.YtnpmfailpgbggaaGreatDoor

namespace Go.Proofs.YtnpmfailpgbggaaGreatDoor
open Go Go.RowKit
namespace LM
set_option linter.unusedVariables false
attribute [local go_sem] run_store_flt

set_option maxRecDepth 100000 in
set_option maxHeartbeats 2000000 in
theorem tint_any (z : Int) (h1 : -9223372036854775808 ≤ z) (h2 : z ≤ 9223372036854775807) (w : World) :
    Calls Tryz.prog 35 #[.int .i64 z] w (RetN w z) := by
  have hb0 : Below w.heap.size w (w.alloc (.cells #[.bool false, .float .f64 0, .bool false, .slice none 0 0] 27)) := (Below.refl _ w).alloc (Nat.le_refl _) _
  have Y0 := Lib.hid (Nx.new w false 0 false none 0 0)
  have HB0 := Lib.hid hb0
  have E1 := Lib.hid fun W => eof_int z h1 h2 W
  have W1 := Lib.hid twhole_any
  clear hb0
  go_enter Tryz.func35, Tryz.ntmps35
  go_wp2_with (fail)
  refine (E1.out _).mono ?_
  intro e w1 hr
  obtain ⟨s1, A1, n1, c1, rfl, hv1, hb1⟩ := hr.gen
  have Y1 := Lib.hid (Y0.out.below hb1)
  have HB1 := Lib.hid (bel_trans (B := w.heap.size) HB0.out hb1)
  have HV1 := Lib.hid hv1
  clear hr hb1 hv1
  go_wp2_with (fail)
  refine (W1.out _ _ _ _ _).mono ?_
  rintro e w2 ⟨rfl, hb2, hv2⟩
  have Y2 := Y1.out.below hb2
  have hbk := bel_trans (B := w.heap.size) HB1.out hb2
  obtain ⟨W, hW, ZR, hbW, hvW, -⟩ := stored_num Y2 hbk (by omega) false 0 s1 A1 n1 c1
  obtain ⟨z0, z1, z2, z3, -, -, -, -, zl⟩ := ZR.facts
  obtain ⟨y0, y1, y2, y3, y4, y5, y6, y7, yl⟩ := Y2.facts
  have HBW := Lib.hid hbW
  have HVW := Lib.hid (hvW _ _ (hv2 _ _ HV1.out))
  clear hb2 hv2 hbk hbW hvW ZR Y2
  go_wp2_with (fail)
  first | rw [hW] | skip
  refine bodyPost_ret (v := .agg #[.bool false, .float .f64 0, .bool s1, .slice A1 n1 c1]) (by simp [results, Tryz.results35, go_sem, z0, z1, z2, z3]) rfl ?_
  exact ⟨s1, A1, n1, c1, rfl, HVW.out, HBW.out⟩

set_option maxRecDepth 100000 in
set_option maxHeartbeats 2000000 in
theorem tflo_any (f : Nat) (w : World) :
    Calls Tryz.prog 117 #[.float .f64 f] w fun e w' => e = .returned (.agg #[.bool true, .float .f64 f, .bool false, .slice none 0 0]) ∧ Below w.heap.size w w' := by
  go_enter Tryz.func117, Tryz.ntmps117
  go_wp2_with (fail)
  refine bodyPost_ret (v := .agg #[.bool true, .float .f64 f, .bool false, .slice none 0 0]) (by simp [results, Tryz.results117, go_sem]) rfl ?_
  exact ⟨rfl, (Below.refl _ w).alloc (Nat.le_refl _) _⟩

set_option maxRecDepth 100000 in
set_option maxHeartbeats 2000000 in
theorem tnothing_any (s : Bool) (A : Option Addr) (n c : Nat) (w : World) :
    Calls Tryz.prog 79 #[.agg #[.bool s, .slice A n c]] w fun e w' => e = .returned (.bool (decide (n = 0))) ∧ Below w.heap.size w w' := by
  have X0 := Bx.new w s A n c
  have hb0 : Below w.heap.size w (w.alloc (.cells #[.bool s, .slice A n c] 25)) := (Below.refl _ w).alloc (Nat.le_refl _) _
  obtain ⟨q0, q1, -, -, ql⟩ := X0.facts
  have HB0 := Lib.hid hb0
  have hd : ((n : Int) == 0) = decide (n = 0) := by
    rw [Bool.eq_iff_iff, beq_iff_eq, decide_eq_true_iff]; omega
  clear hb0 X0
  go_enter Tryz.func79, Tryz.ntmps79
  go_wp2_with (fail)
  go_ret
  exact ⟨rfl, HB0.out⟩

end LM
end Go.Proofs.YtnpmfailpgbggaaGreatDoor

namespace Go.Proofs.YtnpmfailpgbggaaGreatDoor
open Go Go.RowKit
namespace LM
set_option linter.unusedVariables false
attribute [local go_sem] run_store_flt

/-- blocks that are known -/
def Obs (w : World) (L : List (Nat × Obj)) : Prop := ∀ q ∈ L, w.heap[q.1]? = some q.2
section
variable {w w' : World} {L : List (Nat × Obj)} {g : Nat} {o : Obj}
theorem Obs.nil : Obs w [] := fun q hq => by cases hq
theorem Obs.cons (h : w.heap[g]? = some o) (hs : Obs w L) : Obs w ((g, o) :: L) := fun q hq => by
  rcases List.mem_cons.1 hq with rfl | hq
  · exact h
  · exact hs q hq
theorem Obs.hd (h : Obs w ((g, o) :: L)) : w.heap[g]? = some o := h _ (List.mem_cons_self ..)
theorem Obs.tl {p : Nat × Obj} (h : Obs w (p :: L)) : Obs w L := fun q hq => h q (List.mem_cons_of_mem _ hq)
theorem Obs.below (h : Obs w L) (hb : Below w.heap.size w w') : Obs w' L := fun q hq => by
  have h1 := h q hq
  refine (hb.block q.1 ?_).trans h1
  rcases Nat.lt_or_ge q.1 w.heap.size with h2 | h2
  · exact h2
  · rw [Array.getElem?_eq_none h2] at h1; cases h1
theorem Obs.alloc (h : Obs w L) (x : Obj) : Obs (w.alloc x) L := fun q hq => by
  have h1 := h q hq
  refine (Below.heap_alloc w x _ ?_).trans h1
  rcases Nat.lt_or_ge q.1 w.heap.size with h2 | h2
  · exact h2
  · rw [Array.getElem?_eq_none h2] at h1; cases h1
theorem Obs.drew (h : Obs w L) : Obs w.drew L := h
theorem Obs.new (h : Obs w L) (x : Obj) : Obs (w.alloc x) ((w.heap.size, x) :: L) := Obs.cons (by unfold World.alloc; simp) (h.alloc x)
end
theorem Obs.set4 {w : World} {L : List (Nat × Obj)} {g : Nat} (h : Obs w L) (hg : ∀ q ∈ L, q.1 ≠ g) (a b d e : Value) : Obs (set4 w g a b d e) L := fun q hq =>
  (heap_setCell_other _ ⟨g, 3, none⟩ q.1 e (hg q hq)).trans ((heap_setCell_other _ ⟨g, 2, none⟩ q.1 d (hg q hq)).trans ((heap_setCell_other _ ⟨g, 1, none⟩ q.1 b (hg q hq)).trans ((heap_setCell_other w ⟨g, 0, none⟩ q.1 a (hg q hq)).trans (h q hq))))
theorem ob_cell {w : World} {g : Nat} {cs : Array Value} {T : TypeId} (h : w.heap[g]? = some (.cells cs T (0, 0))) (i : Nat) : w.cell? ⟨g, i, none⟩ = cs[i]? := by
  simp [World.cell?, h]
theorem ob_free {w : World} {g : Nat} {cs : Array Value} {T : TypeId} (h : w.heap[g]? = some (.cells cs T (0, 0))) (i : Nat) (hi : i < cs.size) : w.frozen? ⟨g, i, none⟩ = false := by
  simp [World.frozen?, h]

abbrev numO (fl : Bool) (f : Nat) (s : Bool) (A : Option Addr) (n c : Nat) : Obj := .cells #[.bool fl, .float .f64 f, .bool s, .slice A n c] 27 (0, 0)
abbrev numA (fl : Bool) (f : Nat) (s : Bool) (A : Option Addr) (n c : Nat) : Value := .agg #[.bool fl, .float .f64 f, .bool s, .slice A n c]

end LM
end Go.Proofs.YtnpmfailpgbggaaGreatDoor

namespace Go.Proofs.YtnpmfailpgbggaaGreatDoor
open Go Go.RowKit
namespace LM
set_option linter.unusedVariables false

/-- what a datum holds but its Items -/
structure Hd where
  k : Int
  n : Int
  fl : Bool
  f : Nat
  s : Bool
  A : Option Addr
  xs : List Nat
  c : Nat
  t : ByteArray
  B : Option Addr
  cap : Nat
/-- data one behind the other -/
inductive Fr where
  | nil : Fr
  | cons (h : Hd) (kids rest : Fr) : Fr
def Fr.len : Fr → Nat
  | .nil => 0
  | .cons _ _ r => r.len + 1
def Fr.size : Fr → Nat
  | .nil => 0
  | .cons _ k r => k.size + r.size + 1
/-- a datum as a value -/
abbrev datA (h : Hd) (n : Nat) : Value := .agg #[.int .i64 h.k, .int .i64 h.n, .bool h.fl, .float .f64 h.f, .bool h.s, .slice h.A h.xs.length h.c, .string h.t, .slice h.B n h.cap]
/-- and as a block -/
abbrev datO (h : Hd) (n : Nat) : Obj := .cells #[.int .i64 h.k, .int .i64 h.n, .bool h.fl, .float .f64 h.f, .bool h.s, .slice h.A h.xs.length h.c, .string h.t, .slice h.B n h.cap] 30 (0, 0)
/-- a datum's eight cells -/
structure C8 (w : World) (b off : Nat) (h : Hd) (n : Nat) : Prop where
  c0 : w.cell? ⟨b, off, none⟩ = some (.int .i64 h.k)
  c1 : w.cell? ⟨b, off + 1, none⟩ = some (.int .i64 h.n)
  c2 : w.cell? ⟨b, off + 2, none⟩ = some (.bool h.fl)
  c3 : w.cell? ⟨b, off + 3, none⟩ = some (.float .f64 h.f)
  c4 : w.cell? ⟨b, off + 4, none⟩ = some (.bool h.s)
  c5 : w.cell? ⟨b, off + 5, none⟩ = some (.slice h.A h.xs.length h.c)
  c6 : w.cell? ⟨b, off + 6, none⟩ = some (.string h.t)
  c7 : w.cell? ⟨b, off + 7, none⟩ = some (.slice h.B n h.cap)
/-- data that lie from a place on -/
def FAt (w : World) : Nat → Nat → Fr → Prop
  | _, _, .nil => True
  | b, off, .cons h kids rest => b < w.heap.size ∧ C8 w b off h kids.len ∧ Rd w h.A h.xs ∧ (∃ b' off', (0 < kids.len → h.B = some ⟨b', off', none⟩) ∧ FAt w b' off' kids) ∧ FAt w b (off + 8) rest
/-- a datum that is handed on: its Items lie in memory -/
structure DatV (w : World) (h : Hd) (kids : Fr) : Prop where
  xs : Rd w h.A h.xs
  items : ∃ b off, (0 < kids.len → h.B = some ⟨b, off, none⟩) ∧ FAt w b off kids
/-- what is so of each datum that there can be -/
structure Hd.Ok (h : Hd) (m : Nat) : Prop where
  k : -9223372036854775808 ≤ h.k ∧ h.k ≤ 9223372036854775807
  n : -9223372036854775808 ≤ h.n ∧ h.n ≤ 9223372036854775807
  f : h.f < 18446744073709551616
  lm : Lm h.xs
  c : h.xs.length ≤ h.c ∧ h.c ≤ 9223372036854775807
  nA : h.A = none → h.xs.length = 0 ∧ h.c = 0
  l : h.xs.length ≤ 1000
  t : h.t.size ≤ 281474976710656
  cap : m ≤ h.cap ∧ h.cap ≤ 9223372036854775807
  nB : h.B = none → m = 0 ∧ h.cap = 0
  sA : ∀ ad, h.A = some ad → 0 < h.c → ad.spot = none
  sB : ∀ ad, h.B = some ad → 0 < h.cap → ad.spot = none
def Fr.Ok : Fr → Prop
  | .nil => True
  | .cons h kids rest => h.Ok kids.len ∧ kids.Ok ∧ rest.Ok

theorem C8.keep {w w' : World} {b off : Nat} {h : Hd} {n B : Nat} (hc : C8 w b off h n) (hb : Below B w w') (hlt : b < B) : C8 w' b off h n :=
  ⟨(hb.cell (p := ⟨b, _, none⟩) hlt).trans hc.c0, (hb.cell (p := ⟨b, _, none⟩) hlt).trans hc.c1, (hb.cell (p := ⟨b, _, none⟩) hlt).trans hc.c2, (hb.cell (p := ⟨b, _, none⟩) hlt).trans hc.c3,
    (hb.cell (p := ⟨b, _, none⟩) hlt).trans hc.c4, (hb.cell (p := ⟨b, _, none⟩) hlt).trans hc.c5, (hb.cell (p := ⟨b, _, none⟩) hlt).trans hc.c6, (hb.cell (p := ⟨b, _, none⟩) hlt).trans hc.c7⟩
theorem FAt.below {w w' : World} (hb : Below w.heap.size w w') : ∀ (fr : Fr) (b off : Nat), FAt w b off fr → FAt w' b off fr := by
  intro fr
  induction fr with
  | nil => intro b off _; exact trivial
  | cons h kids rest ihk ihr =>
    intro b off hf
    obtain ⟨h1, h2, h3, ⟨b', off', h4, h5⟩, h6⟩ := hf
    exact ⟨Nat.lt_of_lt_of_le h1 hb.size, h2.keep hb h1, h3.below hb, ⟨b', off', h4, ihk _ _ h5⟩, ihr _ _ h6⟩
theorem DatV.below {w w' : World} {h : Hd} {kids : Fr} (hd : DatV w h kids) (hb : Below w.heap.size w w') : DatV w' h kids := by
  obtain ⟨h1, b, off, h2, h3⟩ := hd
  exact ⟨h1.below hb, b, off, h2, FAt.below hb _ _ _ h3⟩
theorem C8.of_block {w : World} {b : Nat} {h : Hd} {n : Nat} (hb : w.heap[b]? = some (datO h n)) : C8 w b 0 h n :=
  ⟨by rw [ob_cell hb]; rfl, by rw [ob_cell hb]; rfl, by rw [ob_cell hb]; rfl, by rw [ob_cell hb]; rfl, by rw [ob_cell hb]; rfl, by rw [ob_cell hb]; rfl, by rw [ob_cell hb]; rfl, by rw [ob_cell hb]; rfl⟩
/-- one of data one behind the other -/
theorem FAt.hd {w : World} {b off : Nat} {h : Hd} {kids rest : Fr} (hf : FAt w b off (.cons h kids rest)) : b < w.heap.size ∧ C8 w b off h kids.len ∧ DatV w h kids ∧ FAt w b (off + 8) rest := by
  obtain ⟨h1, h2, h3, h4, h5⟩ := hf
  exact ⟨h1, h2, ⟨h3, h4⟩, h5⟩
/-- the data behind the first i -/
def Fr.drop : Nat → Fr → Fr
  | 0, fr => fr
  | _ + 1, .nil => .nil
  | i + 1, .cons _ _ r => r.drop i
theorem Fr.len_drop : ∀ (i : Nat) (fr : Fr), (fr.drop i).len = fr.len - i := by
  intro i
  induction i with
  | zero => intro fr; rfl
  | succ i ih =>
    intro fr
    cases fr with
    | nil => show 0 = 0 - (i + 1); omega
    | cons h k r =>
      have := ih r
      show (r.drop i).len = (r.len + 1) - (i + 1)
      omega
theorem Fr.size_drop : ∀ (i : Nat) (fr : Fr), (fr.drop i).size ≤ fr.size := by
  intro i
  induction i with
  | zero => intro fr; exact Nat.le_refl _
  | succ i ih =>
    intro fr
    cases fr with
    | nil => exact Nat.le_refl _
    | cons h k r =>
      have := ih r
      show (r.drop i).size ≤ k.size + r.size + 1
      omega
theorem FAt.drop {w : World} {b : Nat} : ∀ (i : Nat) (fr : Fr) (off : Nat), FAt w b off fr → FAt w b (off + i * 8) (fr.drop i) := by
  intro i
  induction i with
  | zero => intro fr off h; rw [Nat.zero_mul]; exact h
  | succ i ih =>
    intro fr off h
    cases fr with
    | nil => exact trivial
    | cons hh k r =>
      have := ih r (off + 8) h.hd.2.2.2
      rw [show off + (i + 1) * 8 = off + 8 + i * 8 from by omega]
      exact this
theorem Fr.Ok.drop : ∀ (i : Nat) {fr : Fr}, fr.Ok → (fr.drop i).Ok := by
  intro i
  induction i with
  | zero => intro fr h; exact h
  | succ i ih =>
    intro fr h
    cases fr with
    | nil => exact trivial
    | cons hh k r => exact ih h.2.2
theorem Fr.cons_of_lt {fr : Fr} {i : Nat} (hi : i < fr.len) : ∃ h k r, fr.drop i = .cons h k r ∧ fr.drop (i + 1) = r := by
  induction i generalizing fr with
  | zero =>
    cases fr with
    | nil => exact absurd hi (by show ¬ 0 < 0; omega)
    | cons h k r => exact ⟨h, k, r, rfl, rfl⟩
  | succ i ih =>
    cases fr with
    | nil => exact absurd hi (by show ¬ i + 1 < 0; omega)
    | cons h k r =>
      have h2 : i < r.len := by have h3 : i + 1 < r.len + 1 := hi; omega
      exact ih h2

end LM
end Go.Proofs.YtnpmfailpgbggaaGreatDoor

namespace Go.Proofs.YtnpmfailpgbggaaGreatDoor
open Go Go.RowKit
namespace LM
set_option linter.unusedVariables false
attribute [local go_sem] run_store_flt

/-- the count, which gives up at most -/
def cnt : Int → Int → Fr → Int
  | _, n, .nil => n
  | most, n, .cons _ kids rest => if most ≤ n then n else cnt most (n + cnt (most - n) 1 kids) rest
theorem cnt_bd : ∀ (fr : Fr) (most n : Int), n ≤ cnt most n fr ∧ (cnt most n fr ≤ n ∨ cnt most n fr ≤ most) ∧ (n < most → 1 ≤ n → cnt most n fr ≤ most) := by
  intro fr
  induction fr with
  | nil => intro most n; exact ⟨Int.le_refl _, .inl (Int.le_refl _), fun h _ => by show n ≤ most; omega⟩
  | cons h kids rest ihk ihr =>
    intro most n
    unfold cnt
    by_cases hm : most ≤ n
    · rw [if_pos hm]
      exact ⟨Int.le_refl _, .inl (Int.le_refl _), fun h _ => by omega⟩
    · rw [if_neg hm]
      have h1 := ihk (most - n) 1
      have h2 := ihr most (n + cnt (most - n) 1 kids)
      generalize cnt (most - n) 1 kids = c at *
      refine ⟨by omega, ?_, fun _ _ => ?_⟩ <;> omega
def Fr.nodes : Fr → Nat
  | .nil => 0
  | .cons _ kids rest => kids.nodes + 1 + rest.nodes
/-- as long as there are no more than most, it is their number -/
theorem cnt_nodes : ∀ (fr : Fr) (most n : Int), n + fr.nodes ≤ most → cnt most n fr = n + fr.nodes := by
  intro fr
  induction fr with
  | nil => intro most n _; show n = n + ((0 : Nat) : Int); omega
  | cons h kids rest ihk ihr =>
    intro most n hm
    have hm' : n + ((kids.nodes + 1 + rest.nodes : Nat) : Int) ≤ most := hm
    show (if most ≤ n then n else cnt most (n + cnt (most - n) 1 kids) rest) = n + ((kids.nodes + 1 + rest.nodes : Nat) : Int)
    rw [if_neg (by omega), ihk _ _ (by omega), ihr _ _ (by omega)]
    omega
/-- and else at least most -/
theorem cnt_more : ∀ (fr : Fr) (most n : Int), most ≤ n + fr.nodes → most ≤ cnt most n fr := by
  intro fr
  induction fr with
  | nil => intro most n h; have h' : most ≤ n + ((0 : Nat) : Int) := h; show most ≤ n; omega
  | cons h kids rest ihk ihr =>
    intro most n hm
    have hm' : most ≤ n + ((kids.nodes + 1 + rest.nodes : Nat) : Int) := hm
    show most ≤ (if most ≤ n then n else cnt most (n + cnt (most - n) 1 kids) rest)
    by_cases h1 : most ≤ n
    · rw [if_pos h1]; exact h1
    · rw [if_neg h1]
      by_cases h2 : most - n ≤ 1 + kids.nodes
      · have h3 := ihk (most - n) 1 (by omega)
        have h4 := (cnt_bd rest most (n + cnt (most - n) 1 kids)).1
        omega
      · rw [cnt_nodes kids _ _ (by omega)]
        exact ihr _ _ (by omega)

/-- the address of the j-th of data -/
theorem counted_item {w : World} {b off j : Nat} {fr : Fr} {hh : Hd} {k r : Fr} (hf : FAt w b off fr) (hj : fr.drop j = .cons hh k r) : b < w.heap.size ∧ C8 w b (off + j * 8) hh k.len ∧ DatV w hh k := by
  have h := FAt.drop j fr off hf
  rw [hj] at h
  exact ⟨h.hd.1, h.hd.2.1, h.hd.2.2.1⟩
theorem size_item {fr : Fr} {j : Nat} {hh : Hd} {k r : Fr} (hj : fr.drop j = .cons hh k r) : k.size < fr.size := by
  have h := Fr.size_drop j fr
  rw [hj] at h
  have h2 : k.size + r.size + 1 ≤ fr.size := h
  omega

set_option maxRecDepth 100000 in
set_option maxHeartbeats 4000000 in
theorem counted_any : ∀ (m : Nat) (kids : Fr), kids.size < m → kids.Ok → ∀ (h : Hd) (most : Int) (w : World), DatV w h kids → kids.len ≤ h.cap → h.cap ≤ 9223372036854775807 → 1 ≤ most → most ≤ 4611686018427387904 →
    Calls Tryz.prog 28 #[datA h kids.len, .int .i64 most] w fun e w' => e = .returned (.int .i64 (cnt most 1 kids)) ∧ Below w.heap.size w w' := by
  intro m
  induction m with
  | zero => intro kids h; omega
  | succ m ih =>
    intro kids hsz hok h most w hd hc1 hc2 hm1 hm2
    obtain ⟨W0, hW0⟩ : ∃ W0, w.alloc (datO h kids.len) = W0 := ⟨_, rfl⟩
    have hb0 : Below w.heap.size w W0 := by rw [← hW0]; exact (Below.refl _ w).alloc (Nat.le_refl _) _
    have ho : W0.heap[w.heap.size]? = some (datO h kids.len) := by rw [← hW0]; unfold World.alloc; simp
    have hs0 : w.heap.size < W0.heap.size := by rw [← hW0]; simp
    have c7 : W0.cell? ⟨w.heap.size, 7, none⟩ = some (.slice h.B kids.len h.cap) := (C8.of_block ho).c7
    obtain ⟨b, off, hB, hF⟩ := (hd.below hb0).items
    have HW0 := Lib.hid hW0
    have HB0 := Lib.hid hb0
    have HO := Lib.hid ho
    have HF := Lib.hid hF
    have HB := Lib.hid hB
    have HOK := Lib.hid hok
    have IH := Lib.hid ih
    have HSZ := Lib.hid hsz
    clear hW0 hb0 ho hF hB hok ih hsz hd
    go_enter Tryz.func28, Tryz.ntmps28
    go_wp2_with (fail)
    rw [HW0.out]
    go_loopg [5, 10] kids.len (fun kk n i wr => Below W0.heap.size W0 wr ∧ ∃ j : Nat, j ≤ kids.len ∧ kk = kids.len - j ∧ i = .int .i64 (j : Int) ∧ ∃ a : Int, n = .int .i64 a ∧ cnt most a (kids.drop j) = cnt most 1 kids ∧ 1 ≤ a ∧ (a ≤ 1 ∨ a ≤ most))
    case atStart => exact ⟨Below.refl _ _, 0, Nat.zero_le _, rfl, rfl, 1, rfl, rfl, by omega, by omega⟩
    case round =>
      obtain ⟨hbr, j, hj, rfl, rfl, a, rfl, hcn, ha1, ha2⟩ := hrel
      have HBR := Lib.hid hbr
      have HCN := Lib.hid hcn
      have e7 : wr.cell? ⟨w.heap.size, 7, none⟩ = some (.slice h.B kids.len h.cap) := (hbr.cell (p := ⟨w.heap.size, 7, none⟩) hs0).trans c7
      clear hbr hcn
      by_cases hjl : j < kids.len
      · obtain ⟨hh, k, r, hdr, hdr1⟩ := Fr.cons_of_lt hjl
        rw [HB.out (by omega)] at e7
        have hcn := HCN.out
        rw [hdr] at hcn
        obtain ⟨hbl, C, D⟩ := counted_item (FAt.below HBR.out _ _ _ HF.out) hdr
        have hks := size_item hdr
        have hko := HOK.out.drop j
        rw [hdr] at hko
        by_cases hmo : most ≤ a
        · have d1 : decide (most ≤ a) = true := decide_eq_true hmo
          have hres : a = cnt most 1 kids := by rw [← hcn]; unfold cnt; rw [if_pos hmo]
          have HR := Lib.hid hres
          clear hmo hcn hdr hdr1 C D hks hko hres
          go_wp2_with (fail)
          go_ret
          exact ⟨by rw [← HR.out]; rfl, bel_trans (B := w.heap.size) HB0.out HBR.out⟩
        · have d1 : decide (most ≤ a) = false := decide_eq_false hmo
          have hcn2 : cnt most (a + cnt (most - a) 1 k) r = cnt most 1 kids := by rw [← hcn]; conv => rhs; unfold cnt; rw [if_neg hmo]
          have hb1 := cnt_bd k (most - a) 1
          have CK := Lib.hid (IH.out k (by have := HSZ.out; omega) hko.2.1 hh (most - a) wr D hko.1.cap.1 hko.1.cap.2 (by omega) (by omega))
          have HCN2 := Lib.hid hcn2
          have HB1 := Lib.hid hb1
          have HDR := Lib.hid hdr1
          have w1 : IntKind.i64.wrap (most - a) = most - a := by rw [IntKind.wrap_i64]; omega
          obtain ⟨x0, x1, x2, x3, x4, x5, x6, x7⟩ := C
          clear hcn hcn2 hdr hdr1 hb1 hks hko D
          go_wp2_with (fail)
          refine CK.out.mono ?_
          rintro e w2 ⟨rfl, hb2⟩
          have HB2 := Lib.hid (bel_trans (B := W0.heap.size) HBR.out hb2)
          clear hb2
          have w2 : IntKind.i64.wrap (a + cnt (most - a) 1 k) = a + cnt (most - a) 1 k := by rw [IntKind.wrap_i64]; have := HB1.out; omega
          go_wp2_with (fail)
          go_roundg (kids.len - (j + 1))
          case measure => omega
          case rel => exact ⟨HB2.out, j + 1, by omega, rfl, by go_num, _, rfl, by rw [HDR.out]; exact HCN2.out, by have := HB1.out; omega, by have := HB1.out; omega⟩
      · have hje : j = kids.len := by omega
        subst hje
        have hcn := HCN.out
        have hnil : kids.drop kids.len = .nil := by
          have h1 := Fr.len_drop kids.len kids
          cases h2 : kids.drop kids.len with
          | nil => rfl
          | cons x y z => rw [h2] at h1; have h3 : z.len + 1 = kids.len - kids.len := h1; omega
        rw [hnil] at hcn
        have HR : Hid (a = cnt most 1 kids) := Lib.hid hcn
        clear hcn hnil
        go_wp2_with (fail)
        go_ret
        exact ⟨by rw [← HR.out]; rfl, bel_trans (B := w.heap.size) HB0.out HBR.out⟩
end LM
end Go.Proofs.YtnpmfailpgbggaaGreatDoor

namespace Go.Proofs.YtnpmfailpgbggaaGreatDoor
open Go.RowKit
namespace LM
set_option linter.unusedVariables false

end LM
end Go.Proofs.YtnpmfailpgbggaaGreatDoor

namespace Go.Proofs.YtnpmfailpgbggaaGreatDoor
open Go Go.RowKit
namespace LM
set_option linter.unusedVariables false
attribute [local go_sem] run_store_flt

theorem Obs.nx0 {w : World} {g : Nat} {fl : Bool} {f : Nat} {s : Bool} {A : Option Addr} {n c : Nat} {L : List (Nat × Obj)} (h : Obs w ((g, numO fl f s A n c) :: L)) : Nx w g fl f s A n c := h.hd

end LM
end Go.Proofs.YtnpmfailpgbggaaGreatDoor

namespace Go.Proofs.YtnpmfailpgbggaaGreatDoor
open Go.RowKit
namespace LM
set_option linter.unusedVariables false

end LM
end Go.Proofs.YtnpmfailpgbggaaGreatDoor

namespace Go.Proofs.YtnpmfailpgbggaaGreatDoor
open Go.RowKit
namespace LM
set_option linter.unusedVariables false

theorem trim_last {xs : List Nat} {j : Nat} (hj : xs.length = j + 1) : (trim xs = xs) ↔ xs[j]?.getD 0 ≠ 0 := by
  constructor
  · intro h h0
    have h1 := trim_take_zero xs j (by omega) h0
    rw [← hj, List.take_length] at h1
    have h2 := trim_length_le (xs.take j)
    have h3 := congrArg List.length h
    rw [h1] at h3
    rw [List.length_take] at h2
    omega
  · intro h
    have h1 := trim_take_pos xs j (by omega) h
    rw [← hj, List.take_length] at h1
    exact h1

set_option maxRecDepth 100000 in
set_option maxHeartbeats 2000000 in
theorem eright_nil_false (A : Option Addr) (c : Nat) (w : World) :
    Calls Tryz.prog 81 #[.agg #[.bool false, .slice A 0 c]] w fun e w' => e = .returned (.bool true) ∧ Below w.heap.size w w' := by
  have HB := Lib.hid (show Below w.heap.size w (w.alloc (.cells #[.bool false, .slice A 0 c] 25)) from (Below.refl _ w).alloc (Nat.le_refl _) _)
  go_enter Tryz.func81, Tryz.ntmps81
  go_wp2
  go_ret
  exact ⟨rfl, HB.out⟩

set_option maxRecDepth 100000 in
set_option maxHeartbeats 2000000 in
theorem eright_nil_true (A : Option Addr) (c : Nat) (w : World) :
    Calls Tryz.prog 81 #[.agg #[.bool true, .slice A 0 c]] w fun e w' => e = .returned (.bool false) ∧ Below w.heap.size w w' := by
  have HB := Lib.hid (show Below w.heap.size w (w.alloc (.cells #[.bool true, .slice A 0 c] 25)) from (Below.refl _ w).alloc (Nat.le_refl _) _)
  go_enter Tryz.func81, Tryz.ntmps81
  go_wp2
  go_ret
  exact ⟨rfl, HB.out⟩

set_option maxRecDepth 100000 in
set_option maxHeartbeats 2000000 in
theorem eright_long (s : Bool) (A : Option Addr) (c j : Nat) (xs : List Nat) (w : World) (ha : Rd w A xs) (hx : Lm xs) (hj : xs.length = j + 1) (hl : j ≤ 1000) (h : 64 ≤ j) :
    Calls Tryz.prog 81 #[.agg #[.bool s, .slice A (j + 1) c]] w fun e w' => e = .returned (.bool false) ∧ Below w.heap.size w w' := by
  have HB := Lib.hid (show Below w.heap.size w (w.alloc (.cells #[.bool s, .slice A (j + 1) c] 25)) from (Below.refl _ w).alloc (Nat.le_refl _) _)
  have d1 : decide (((j + 1 : Nat) : Int) ≤ 64) = false := decide_eq_false (by omega)
  have d2 : decide (j + 1 ≤ 64) = false := decide_eq_false (by omega)
  have d3 : decide ((j : Int) + 1 ≤ 64) = false := decide_eq_false (by omega)
  clear ha hx
  go_enter Tryz.func81, Tryz.ntmps81
  go_wp2
  go_ret
  exact ⟨rfl, HB.out⟩

set_option maxRecDepth 100000 in
set_option maxHeartbeats 2000000 in
theorem eright_zero (s : Bool) (A : Option Addr) (c j : Nat) (xs : List Nat) (w : World) (ha : Rd w A xs) (hx : Lm xs) (hj : xs.length = j + 1) (hl : j ≤ 1000) (h : j < 64) (hz : xs[j]?.getD 0 = 0) :
    Calls Tryz.prog 81 #[.agg #[.bool s, .slice A (j + 1) c]] w fun e w' => e = .returned (.bool false) ∧ Below w.heap.size w w' := by
  have HB := Lib.hid (show Below w.heap.size w (w.alloc (.cells #[.bool s, .slice A (j + 1) c] 25)) from (Below.refl _ w).alloc (Nat.le_refl _) _)
  have d1 : decide (((j + 1 : Nat) : Int) ≤ 64) = true := decide_eq_true (by omega)
  have d2 : decide (j + 1 ≤ 64) = true := decide_eq_true (by omega)
  have d3 : decide ((j : Int) + 1 ≤ 64) = true := decide_eq_true (by omega)
  obtain ⟨b, off, rfl, hb, hcell⟩ := (ha.alloc (.cells #[.bool s, .slice A (j + 1) c] 25)).at_ (by omega : j < xs.length)
  obtain ⟨y, hy⟩ : ∃ y, xs[j]?.getD 0 = y := ⟨_, rfl⟩
  rw [hy] at hz hcell
  have hz2 : (((y : Nat) : Int) == 0) = true := by rw [hz]; rfl
  have hz3 : (((y : Nat) : Int) != 0) = false := by rw [bne, hz2]; rfl
  subst hz
  have hb2 : b < w.heap.size + 1 := by simpa using hb
  clear ha hx hy
  go_enter Tryz.func81, Tryz.ntmps81
  go_wp2
  go_ret
  exact ⟨rfl, HB.out⟩

set_option maxRecDepth 100000 in
set_option maxHeartbeats 2000000 in
theorem eright_top (s : Bool) (A : Option Addr) (c j : Nat) (xs : List Nat) (w : World) (ha : Rd w A xs) (hx : Lm xs) (hj : xs.length = j + 1) (hl : j ≤ 1000) (h : j < 64) (hz : xs[j]?.getD 0 ≠ 0) :
    Calls Tryz.prog 81 #[.agg #[.bool s, .slice A (j + 1) c]] w fun e w' => e = .returned (.bool true) ∧ Below w.heap.size w w' := by
  have HB := Lib.hid (show Below w.heap.size w (w.alloc (.cells #[.bool s, .slice A (j + 1) c] 25)) from (Below.refl _ w).alloc (Nat.le_refl _) _)
  have d1 : decide (((j + 1 : Nat) : Int) ≤ 64) = true := decide_eq_true (by omega)
  have d2 : decide (j + 1 ≤ 64) = true := decide_eq_true (by omega)
  have d3 : decide ((j : Int) + 1 ≤ 64) = true := decide_eq_true (by omega)
  obtain ⟨b, off, rfl, hb, hcell⟩ := (ha.alloc (.cells #[.bool s, .slice A (j + 1) c] 25)).at_ (by omega : j < xs.length)
  obtain ⟨y, hy⟩ : ∃ y, xs[j]?.getD 0 = y := ⟨_, rfl⟩
  rw [hy] at hz hcell
  have hz2 : (((y : Nat) : Int) == 0) = false := by rw [beq_eq_false_iff_ne]; omega
  have hz3 : (((y : Nat) : Int) != 0) = true := by rw [bne, hz2]; rfl
  clear hz
  have hb2 : b < w.heap.size + 1 := by simpa using hb
  clear ha hx hy
  go_enter Tryz.func81, Tryz.ntmps81
  go_wp2
  go_ret
  exact ⟨rfl, HB.out⟩

theorem SmallE.form {x : Int} {e : Ending} (h : SmallE x e) : ∃ (k : Int) (b : Bool), e = .returned (.tuple #[.int .i64 k, .bool b]) ∧ (k, b) = (if -9223372036854775808 ≤ x ∧ x ≤ 9223372036854775807 then (x, true) else (0, false)) := by
  rcases h with ⟨h1, h2, h3⟩ | ⟨h1, h3⟩
  · exact ⟨_, _, h3, by rw [if_pos ⟨h1, h2⟩]⟩
  · exact ⟨_, _, h3, by rw [if_neg h1]⟩
/-- exact's Right, of lists that aren't too long -/
theorem eright_any (s : Bool) (A : Option Addr) (c : Nat) (xs : List Nat) (w : World) (ha : Rd w A xs) (hx : Lm xs) (hl : xs.length ≤ 1000) :
    Calls Tryz.prog 81 #[.agg #[.bool s, .slice A xs.length c]] w fun e w' => e = .returned (.bool (rightB s xs)) ∧ Below w.heap.size w w' := by
  rcases xs with _ | ⟨x, r⟩
  · cases s with
    | false =>
      rw [show rightB false [] = true from decide_eq_true ⟨by decide, rfl, by simp⟩]
      exact eright_nil_false A c w
    | true =>
      rw [show rightB true [] = false from decide_eq_false fun h => h.2.2 ⟨rfl, rfl⟩]
      exact eright_nil_true A c w
  · have hj : (x :: r).length = r.length + 1 := rfl
    generalize x :: r = xs at *
    generalize r.length = j at *
    rw [hj]
    by_cases h : 64 ≤ j
    · rw [show rightB s xs = false from decide_eq_false fun k => by have := k.1; omega]
      exact eright_long s A c j xs w ha hx hj (by omega) h
    · by_cases hz : xs[j]?.getD 0 = 0
      · rw [show rightB s xs = false from decide_eq_false fun k => (trim_last hj).1 k.2.1 hz]
        exact eright_zero s A c j xs w ha hx hj (by omega) (by omega) hz
      · rw [show rightB s xs = true from decide_eq_true ⟨by omega, (trim_last hj).2 hz, fun k => by have := k.2; omega⟩]
        exact eright_top s A c j xs w ha hx hj (by omega) (by omega) hz

end LM
end Go.Proofs.YtnpmfailpgbggaaGreatDoor

namespace Go.Proofs.YtnpmfailpgbggaaGreatDoor
open Go.RowKit
namespace LM
set_option linter.unusedVariables false

end LM
end Go.Proofs.YtnpmfailpgbggaaGreatDoor

namespace Go.Proofs.YtnpmfailpgbggaaGreatDoor
open Go.RowKit
namespace LM
set_option linter.unusedVariables false

def powR (x y : Int) : Int × Int := if 0 ≤ y ∧ y ≤ 1000 then (match powI y.natAbs 1 x with | none => (0, 11) | some z => (z, 0)) else (0, 21)
end LM
end Go.Proofs.YtnpmfailpgbggaaGreatDoor

namespace Go.Proofs.YtnpmfailpgbggaaGreatDoor
open Go.RowKit
namespace LM
set_option linter.unusedVariables false

/-- a slice that reads as this number, without leading zeros, with its room -/
def NumC (w : World) (v : Value) (n : Nat) : Prop := ∃ A c r, v = .slice A (List.length r) c ∧ (List.length r ≤ c ∧ c ≤ 9223372036854775807) ∧ Rd w A r ∧ Can r ∧ val r = n
def RetO (w : World) (z : Int) (e : Ending) (w' : World) : Prop := ∃ s A n c, e = .returned (.agg #[.bool s, .slice A n c]) ∧ IntV w' (.agg #[.bool s, .slice A n c]) z ∧ Below w.heap.size w w'

set_option maxRecDepth 100000 in
set_option maxHeartbeats 1000000 in
theorem rtrimc_any (A : Option Addr) (c : Nat) (xs : List Nat) (w : World) (hr : Rd w A xs) (hx : Lm xs) (hl : xs.length ≤ 1000000) (hnil : A = none → xs.length = 0 ∧ c = 0) :
    Calls Tryz.prog 118 #[.slice A xs.length c] w fun e w' => (∃ v, e = .returned v ∧ NumC w' v (val xs)) ∧ Below w.heap.size w w' := by
  obtain ⟨i0, hi0, hz0, hz1, hz2⟩ := info_parts u32_info
  rcases A with _ | ad
  · obtain ⟨hx0, rfl⟩ := hnil rfl
    obtain rfl : xs = [] := List.eq_nil_of_length_eq_zero hx0
    have hrow : (w.alloc (.cells #[] 60)).ownsRow w.heap.size 60 1 (.slice (some ⟨w.heap.size, 0, none⟩) 0 0) 0 [] :=
      ⟨rfl, .inr ⟨w.heap.size, 0, #[], rfl, Nat.le_refl _, heap_alloc_new w _, Nat.le_refl _, by decide, rfl, rfl⟩⟩
    go_enter Tryz.func118, Tryz.ntmps118
    go_wp2_with (at_builtin; refine wpList_append_own_none _ rfl _ _ 23 rfl w.heap.size 60 i0 1 Tryz.underlying23 hi0 _ _ _ rfl hrow rfl ?_)
    go_loopw [3] (fun v wr => v = .slice (some ⟨w.heap.size, 0, none⟩) 0 0 ∧ w.alloc (.cells #[] 60) = wr) (fun _ _ => 0)
    case atStart => exact ⟨rfl, rfl⟩
    case round =>
      obtain ⟨rfl, rfl⟩ := hrel
      go_wp2
      go_ret
      exact ⟨⟨_, rfl, _, _, [], rfl, ⟨by decide, by decide⟩, Rd.nil, can_nil, rfl⟩, (Below.refl _ _).alloc (Nat.le_refl _) _⟩
  · have hrow : (w.alloc (.cells #[] 60)).ownsRow w.heap.size 60 1 (.slice (some ⟨w.heap.size, 0, none⟩) 0 0) 0 [] :=
      ⟨rfl, .inr ⟨w.heap.size, 0, #[], rfl, Nat.le_refl _, heap_alloc_new w _, Nat.le_refl _, by decide, rfl, rfl⟩⟩
    have hsrc : ∀ j u, (U xs)[j]? = some u → (w.alloc (.cells #[] 60)).cell? (ad.add j) = some u := by
      intro j u hu
      have hj : j < xs.length := by
        rcases Nat.lt_or_ge j xs.length with h | h
        · exact h
        · rw [List.getElem?_eq_none (by rw [U_len]; exact h)] at hu; cases hu
      obtain ⟨b, off, e, hb, hc⟩ := hr.at_ hj
      injection e with e
      subst e
      rw [U_get _ _ hj] at hu
      rw [← hu, ← hc, addr_add]
      exact World.cell?_of_block (a := ⟨b, off + j, none⟩) (Below.heap_alloc w _ b hb)
    go_enter Tryz.func118, Tryz.ntmps118
    go_wp2_with (at_builtin; refine wpList_append_own _ rfl _ _ 23 rfl w.heap.size 60 i0 (.int .u32 0) 1 4 Tryz.underlying23 hi0 hz0 hz1 hz2 rfl (by decide) _ _ _ rfl hrow ad xs.length c (U xs) rfl (by simp [U_len]) hsrc (u_one xs) (by unfold maxLen; omega) (by omega) (by simp) ?_; intro v1 w1 hown1 hg1 hiff)
    have hb1 : Below w.heap.size w w1 := ((Below.refl _ w).alloc (Nat.le_refl _) _).grown hg1 (by simp) (fun k e => by have e2 : (Value.slice (some ⟨w.heap.size, 0, none⟩) 0 0).ownBlock = some k := e; have e3 : some w.heap.size = some k := e2; injection e3 with e3; omega)
    simp only [Nat.zero_add, List.nil_append] at hown1
    have hfin : ∀ v2, (∃ k cap g, v2 = .slice (some ⟨g, 0, none⟩) k cap ∧ k = (trim xs).length ∧ (xs.length ≤ cap ∧ cap ≤ 9223372036854775807) ∧ Rd w1 (some ⟨g, 0, none⟩) xs) → NumC w1 v2 (val xs) := by
      rintro v2 ⟨k, cap, g, rfl, rfl, hc9, hrd⟩
      exact ⟨_, _, trim xs, rfl, ⟨Nat.le_trans (trim_length_le xs) hc9.1, hc9.2⟩, hrd.trim, can_trim hx, val_trim xs⟩
    have HFIN := Lib.hid hfin
    clear hfin
    rcases own_cases hown1 with ⟨rfl, rfl⟩ | ⟨g, cap, rest, rfl, hgb, hB1, hcap, hcm, hlen⟩
    · have h := (hiff.1 rfl).1
      have h2 : Value.slice (some ⟨w.heap.size, 0, none⟩) 0 0 = .slice none 0 0 := h
      cases h2
    · clear hiff
      have hrd : Rd w1 (some ⟨g, 0, none⟩) xs := fun hl0 => ⟨g, 0, rfl, hB1.lt, fun k hk => by
        rw [Nat.zero_add, hB1.cell, List.getElem?_append_left (by rw [U_len]; exact hk), U_get _ _ hk]⟩
      have hlen2 := Lib.hid hlen
      have HOWN := Lib.hid hown1
      clear hlen hown1 hg1
      unfold maxLen at hcm
      have HCAP := Lib.hid (show xs.length ≤ cap ∧ cap ≤ 9223372036854775807 from ⟨hcap, by omega⟩)
      go_wp2_with fail
      go_loopw [3] (fun v wr => RtRel xs w1 g cap v wr) (fun v _ => lenS v)
      case atStart => exact ⟨xs.length, Nat.le_refl _, rfl, by rw [List.take_length], rfl⟩
      case round =>
        obtain ⟨k, hk, rfl, ht, rfl⟩ := hrel
        have HT := Lib.hid ht
        clear ht
        rcases k with _ | j
        · go_wp2
          go_ret
          refine ⟨⟨_, rfl, HFIN.out _ ⟨0, cap, g, rfl, ?_, HCAP.out, hrd⟩⟩, hb1⟩
          exact congrArg List.length HT.out
        · obtain ⟨b, off, e, hb, hcell⟩ := hrd.at_ (by omega : j < xs.length)
          cases e
          rw [Nat.zero_add] at hcell
          by_cases hz : xs[j]?.getD 0 = 0
          · have h1 := trim_take_zero xs j (by omega) hz
            rw [hz] at hcell
            clear hz
            have H1 := Lib.hid h1
            clear h1
            go_wp2
            go_roundw
            case rel => exact ⟨j, by omega, by go_num, by rw [← H1.out, HT.out], rfl⟩
            case measure => simp [lenS]
          · have hzz : (((xs[j]?.getD 0 : Nat) : Int) == 0) = false := by rw [beq_eq_false_iff_ne]; omega
            have h1 := trim_take_pos xs j (by omega) hz
            clear hz
            have H1 := Lib.hid h1
            clear h1
            go_wp2
            go_ret
            refine ⟨⟨_, rfl, HFIN.out _ ⟨j + 1, cap, g, rfl, ?_, HCAP.out, hrd⟩⟩, hb1⟩
            have h := congrArg List.length (H1.out.symm.trans HT.out)
            rw [List.length_take, Nat.min_eq_left hk] at h
            exact h

set_option maxHeartbeats 400000 in
theorem rofc_any (n : Nat) (w : World) (hn : n < 18446744073709551616) :
    Calls Tryz.prog 100 #[.int .u64 (n : Int)] w fun e w' => (∃ v, e = .returned v ∧ NumC w' v n) ∧ Below w.heap.size w w' := by
  have e1 : (n : Int) % 4294967296 = ((n % 4294967296 : Nat) : Int) := by simp
  have e2 : (n : Int) / 4294967296 = ((n / 4294967296 : Nat) : Int) := by simp
  have l1 : n % 4294967296 < 4294967296 := Nat.mod_lt _ (by decide)
  have l2 : n / 4294967296 < 4294967296 := by omega
  have hv : val [n % 4294967296, n / 4294967296] = n := by simp [val]; omega
  generalize n % 4294967296 = lo at *
  generalize n / 4294967296 = hi at *
  have HV := Lib.hid hv
  clear hv
  have hrd : Rd (w.alloc (.cells #[.int .u32 (lo : Int), .int .u32 (hi : Int)] 60)) (some ⟨w.heap.size, 0, none⟩) [lo, hi] := by
    have h := Rd.of_blk (w := w.alloc (.cells #[.int .u32 (lo : Int), .int .u32 (hi : Int)] 60)) (g := w.heap.size) (pre := []) (xs := [lo, hi]) (post := []) (by simpa [U] using Blk.new w (U [lo, hi]))
    simpa using h
  go_enter Tryz.func100, Tryz.ntmps100
  go_wp2_with fail
  refine (rtrimc_any (some ⟨w.heap.size, 0, none⟩) 2 [lo, hi] _ hrd (Lm.cons l1 (Lm.cons l2 Lm.nil)) (by simp) (fun h => by cases h)).mono ?_
  rintro e w1 ⟨⟨v, rfl, hnv⟩, hb⟩
  rw [HV.out] at hnv
  have HN := Lib.hid hnv
  have HB := Lib.hid hb
  clear hnv hb
  go_wp2
  go_ret
  exact ⟨⟨v, rfl, HN.out⟩, ((Below.refl _ _).alloc (Nat.le_refl _) _).trans (HB.out.mono (by simp))⟩

set_option maxRecDepth 100000 in
set_option maxHeartbeats 1000000 in
theorem rplusc_any (A B : Option Addr) (ca cb : Nat) (xs ys : List Nat) (w : World) (ha : Rd w A xs) (hb : Rd w B ys) (hx : Lm xs) (hy : Lm ys) (hlx : xs.length ≤ 10000) (hly : ys.length ≤ 10000) :
    Calls Tryz.prog 101 #[.slice A xs.length ca, .slice B ys.length cb] w fun e w' => (∃ v, e = .returned v ∧ NumC w' v (val xs + val ys)) ∧ Below w.heap.size w w' := by
  obtain ⟨i0, hi0, hz0, hz1, hz2⟩ := info_parts u32_info
  have K1 := Lib.hid (fun k y W h hk (hy : xs[k]?.getD 0 = y) => rat_any A ca xs k y W h hk (by omega) hy (by rw [← hy]; exact hx.get k))
  have K2 := Lib.hid (fun k y W h hk (hv : ys[k]?.getD 0 = y) => rat_any B cb ys k y W h hk (by omega) hv (by rw [← hv]; exact hy.get k))
  have hrow : (w.alloc (.cells #[] 60)).ownsRow w.heap.size 60 1 (.slice (some ⟨w.heap.size, 0, none⟩) 0 0) 0 [] :=
    ⟨rfl, .inr ⟨w.heap.size, 0, #[], rfl, Nat.le_refl _, heap_alloc_new w _, Nat.le_refl _, by decide, rfl, rfl⟩⟩
  go_enter Tryz.func101, Tryz.ntmps101
  go_wp2
  go_loopw [5, 6, 7] (fun v c i wr => PlRel w xs ys v c i wr) (fun _ _ i _ => max xs.length ys.length + 1 - (intOf i).toNat)
  case atStart => exact ⟨0, [], 0, Nat.zero_le _, rfl, rfl, by decide, fun _ => rfl, rfl, Lm.nil, by simp [val], hrow, (Below.refl _ _).alloc (Nat.le_refl _) _⟩
  case round =>
    clear hrow
    obtain ⟨k, zs, cy, hk, rfl, rfl, hcy, h0, hzl, hzL, hv, hown, hbe⟩ := hrel
    have HV := Lib.hid hv
    have HZ := Lib.hid hzl
    have H0 := Lib.hid h0
    clear hv h0
    have hra := ha.below hbe
    have hrb := hb.below hbe
    have hxk := hx.get k
    have hyk := hy.get k
    have hst := addTo_step (xs := xs) (ys := ys) hzl HV.out
    have hy0 : max xs.length ys.length < k + 1 → xs[k]?.getD 0 = 0 ∧ ys[k]?.getD 0 = 0 := fun h => ⟨by rw [List.getElem?_eq_none (by omega)]; rfl, by rw [List.getElem?_eq_none (by omega)]; rfl⟩
    have c1 := K1.out k
    have c2 := K2.out k
    generalize hxe : xs[k]?.getD 0 = x at *
    generalize hye : ys[k]?.getD 0 = y at *
    have HST := Lib.hid hst
    have HY0 := Lib.hid hy0
    have C1 := Lib.hid c1
    have C2 := Lib.hid c2
    clear hst hy0 c1 c2 hxe hye hzl
    rw [HZ.out] at hown
    have hbs := hbe.size
    by_cases t1 : k < xs.length
    · have hm : k ≤ max xs.length ys.length := by omega
      go_wp2_with fail
      refine (C1.out _ _ hra (by omega) rfl).mono ?_; rintro e w1 ⟨rfl, rfl⟩
      go_wp2_with fail
      refine (C2.out _ _ hrb (by omega) rfl).mono ?_; rintro e w1 ⟨rfl, rfl⟩
      go_wp2_with (at_builtin; refine wpList_append_own _ rfl _ _ 23 rfl w.heap.size 60 i0 (.int .u32 0) 1 4 Tryz.underlying23 hi0 hz0 hz1 hz2 rfl (by decide) _ _ _ rfl (hown.alloc _) ⟨wr.heap.size, 0, none⟩ 1 1 [.int .u32 (((x : Int) + (y : Int) + (cy : Int)) % 4294967296)] rfl rfl (cell_one_new _ _ _) (by simp [Value.oneCell']) (by unfold maxLen; omega) (by omega) (by simp; omega) ?_; intro v1 w1 hown1 hg1 _)
      go_roundw
      case rel =>
        refine ⟨k + 1, zs ++ [(x + y + cy) % 4294967296], (x + y + cy) / 4294967296, by omega, by go_num, by congr 1, by omega, fun h => ?_, by simp [HZ.out], hzL.snoc (Nat.mod_lt _ (by decide)), HST.out, ?_, ?_⟩
        · obtain ⟨rfl, rfl⟩ := HY0.out h
          omega
        · have e : (zs ++ [(x + y + cy) % 4294967296]).length = k + 1 := by simp [HZ.out]
          rw [e, U_append]
          exact hown1
        · exact (hbe.alloc hbs _).grown hg1 (by simp; omega) (fun b e => plus_block hown e)
      case measure => simp [intOf]; omega
    · by_cases t2 : k < ys.length
      · have hm : k ≤ max xs.length ys.length := by omega
        go_wp2_with fail
        refine (C1.out _ _ hra (by omega) rfl).mono ?_; rintro e w1 ⟨rfl, rfl⟩
        go_wp2_with fail
        refine (C2.out _ _ hrb (by omega) rfl).mono ?_; rintro e w1 ⟨rfl, rfl⟩
        go_wp2_with (at_builtin; refine wpList_append_own _ rfl _ _ 23 rfl w.heap.size 60 i0 (.int .u32 0) 1 4 Tryz.underlying23 hi0 hz0 hz1 hz2 rfl (by decide) _ _ _ rfl (hown.alloc _) ⟨wr.heap.size, 0, none⟩ 1 1 [.int .u32 (((x : Int) + (y : Int) + (cy : Int)) % 4294967296)] rfl rfl (cell_one_new _ _ _) (by simp [Value.oneCell']) (by unfold maxLen; omega) (by omega) (by simp; omega) ?_; intro v1 w1 hown1 hg1 _)
        go_roundw
        case rel =>
          refine ⟨k + 1, zs ++ [(x + y + cy) % 4294967296], (x + y + cy) / 4294967296, by omega, by go_num, by congr 1, by omega, fun h => ?_, by simp [HZ.out], hzL.snoc (Nat.mod_lt _ (by decide)), HST.out, ?_, ?_⟩
          · obtain ⟨rfl, rfl⟩ := HY0.out h
            omega
          · have e : (zs ++ [(x + y + cy) % 4294967296]).length = k + 1 := by simp [HZ.out]
            rw [e, U_append]
            exact hown1
          · exact (hbe.alloc hbs _).grown hg1 (by simp; omega) (fun b e => plus_block hown e)
        case measure => simp [intOf]; omega
      · rcases Nat.eq_zero_or_pos cy with rfl | t3
        · have hv := HV.out
          rw [List.take_of_length_le (by omega : xs.length ≤ k), List.take_of_length_le (by omega : ys.length ≤ k), Nat.mul_zero, Nat.add_zero] at hv
          rw [← HZ.out] at hown
          obtain ⟨A1, c1, rfl, hrz, hnz⟩ := own_rd hown
          have HVV := Lib.hid hv
          have HOW := Lib.hid hown
          have hzn : zs.length ≤ 20002 := by rw [HZ.out]; omega
          clear hv hown
          go_wp2_with fail
          refine (rtrimc_any A1 c1 zs wr hrz hzL (by omega) hnz).mono ?_
          rintro e w1 ⟨⟨v, rfl, hn⟩, hb1⟩
          rw [HVV.out] at hn
          have HN := Lib.hid hn
          have HB := Lib.hid hb1
          clear hn hb1
          go_wp2
          go_ret
          exact ⟨⟨v, rfl, HN.out⟩, hbe.trans (HB.out.mono hbs)⟩
        · have hm : k ≤ max xs.length ys.length := by
            rcases Nat.lt_or_ge (max xs.length ys.length) k with h | h
            · have := H0.out h; omega
            · exact h
          go_wp2_with fail
          refine (C1.out _ _ hra (by omega) rfl).mono ?_; rintro e w1 ⟨rfl, rfl⟩
          go_wp2_with fail
          refine (C2.out _ _ hrb (by omega) rfl).mono ?_; rintro e w1 ⟨rfl, rfl⟩
          go_wp2_with (at_builtin; refine wpList_append_own _ rfl _ _ 23 rfl w.heap.size 60 i0 (.int .u32 0) 1 4 Tryz.underlying23 hi0 hz0 hz1 hz2 rfl (by decide) _ _ _ rfl (hown.alloc _) ⟨wr.heap.size, 0, none⟩ 1 1 [.int .u32 (((x : Int) + (y : Int) + (cy : Int)) % 4294967296)] rfl rfl (cell_one_new _ _ _) (by simp [Value.oneCell']) (by unfold maxLen; omega) (by omega) (by simp; omega) ?_; intro v1 w1 hown1 hg1 _)
          go_roundw
          case rel =>
            refine ⟨k + 1, zs ++ [(x + y + cy) % 4294967296], (x + y + cy) / 4294967296, by omega, by go_num, by congr 1, by omega, fun h => ?_, by simp [HZ.out], hzL.snoc (Nat.mod_lt _ (by decide)), HST.out, ?_, ?_⟩
            · obtain ⟨rfl, rfl⟩ := HY0.out h
              omega
            · have e : (zs ++ [(x + y + cy) % 4294967296]).length = k + 1 := by simp [HZ.out]
              rw [e, U_append]
              exact hown1
            · exact (hbe.alloc hbs _).grown hg1 (by simp; omega) (fun b e => plus_block hown e)
          case measure => simp [intOf]; omega

set_option maxRecDepth 100000 in
set_option maxHeartbeats 1000000 in
theorem rmadec_nil (neg : Bool) (A : Option Addr) (c : Nat) (w : World) :
    Calls Tryz.prog 99 #[.bool neg, .slice A 0 c] w (RetO w 0) := by
  obtain ⟨hb0, x0⟩ := newc1 w
  have HB0 := Lib.hid hb0
  have X0 := Lib.hid x0
  clear hb0 x0
  go_enter Tryz.func99, Tryz.ntmps99
  go_wp2
  refine bodyPost_ret (v := .agg #[.bool false, .slice none 0 0]) (by simp [results, Tryz.results99, go_sem]) rfl ?_
  exact ⟨_, _, _, _, rfl, ⟨none, 0, [], rfl, by decide, by decide, Rd.nil, can_nil, rfl⟩, HB0.out⟩

set_option maxRecDepth 100000 in
set_option maxHeartbeats 1000000 in
theorem rmadec_some (neg : Bool) (A : Option Addr) (c : Nat) (r : List Nat) (w : World) (h0 : 0 < r.length) (hl : r.length ≤ 10000) (h1 : r.length ≤ c) (h2 : c ≤ 9223372036854775807) (h3 : Rd w A r) (h4 : Can r) :
    Calls Tryz.prog 99 #[.bool neg, .slice A r.length c] w (RetO w (sg neg (val r))) := by
  have hz : ((r.length : Int) == 0) = false := by simp; intro h; rw [h] at h0; simp at h0
  have HR := Lib.hid (h3.alloc (.cells #[.bool neg, .slice A r.length c] 25))
  have HP := Lib.hid ((can_pos h4).1 h0)
  have HC := Lib.hid h4
  have HK := Lib.hid (show r.length ≤ c ∧ c ≤ 9223372036854775807 from ⟨h1, h2⟩)
  clear h0 h3 h4
  go_enter Tryz.func99, Tryz.ntmps99
  go_wp2
  refine bodyPost_ret (v := .agg #[.bool neg, .slice A r.length c]) (by simp [results, Tryz.results99, go_sem]) rfl ?_
  refine ⟨_, _, _, _, rfl, ⟨A, c, r, ?_, HK.out.1, HK.out.2, HR.out, HC.out, (sg_abs _ _).symm⟩, (Below.refl _ _).alloc (Nat.le_refl _) _⟩
  rw [sg_neg, decide_eq_true HP.out, Bool.and_true]

theorem rmadec_num (neg : Bool) (A : Option Addr) (c : Nat) (r : List Nat) (w : World) (hl : r.length ≤ 10000) (h1 : r.length ≤ c) (h2 : c ≤ 9223372036854775807) (h3 : Rd w A r) (h4 : Can r) :
    Calls Tryz.prog 99 #[.bool neg, .slice A r.length c] w (RetO w (sg neg (val r))) := by
  rcases Nat.eq_zero_or_pos r.length with h | h
  · have hv : val r = 0 := (can_zero h4).1 h
    rw [h, hv, sg_zero]
    exact rmadec_nil neg A c w
  · exact rmadec_some neg A c r w h hl h1 h2 h3 h4

theorem small_len2 {r : List Nat} (hc : Can r) (h : val r < 18446744073709551616 * 2) : r.length ≤ 3 := by
  rcases Nat.lt_or_ge 3 r.length with h1 | h1
  · have h2 := (can_len hc 3).1 h1
    have h3 : (4294967296 : Nat) ^ 3 = 18446744073709551616 * 4294967296 := by decide
    omega
  · exact h1

set_option maxRecDepth 100000 in
set_option maxHeartbeats 2000000 in
theorem rof2c_pos (m : Nat) (hm : m ≤ 9223372036854775807) (w : World) :
    Calls Tryz.prog 66 #[.int .i64 (m : Int)] w (RetO w (sg false m)) := by
  obtain ⟨hb0, x0⟩ := newc1 w
  have HB0 := Lib.hid hb0
  have X0 := Lib.hid x0
  have H1 := Lib.hid (rofc_any m (w.alloc (.cells #[.bool false, .slice none 0 0] 25)) (by omega))
  have hneg : decide (0 ≤ (m : Int)) = true := decide_eq_true (by omega)
  clear hb0 x0
  go_enter Tryz.func66, Tryz.ntmps66
  go_wp2_with fail
  refine H1.out.mono ?_
  rintro e w2 ⟨⟨v, rfl, A1, c1, r1, rfl, ⟨hcc, hcm⟩, h3, h4, h5⟩, hb2⟩
  have hl := small_len2 h4 (by omega)
  have HM := Lib.hid (rmadec_num false A1 c1 r1 w2 (by omega) hcc hcm h3 h4)
  rw [h5] at HM
  have Z2 := Lib.hid (X0.out.below hb2)
  have HB2 := Lib.hid (HB0.out.trans (hb2.mono HB0.out.size))
  clear h3 h4 h5 hb2
  go_wp2_with fail
  refine HM.out.mono ?_
  rintro e w3 ⟨s3, A3, n3, c3, rfl, hv3, hb3⟩
  have Z3 := Lib.hid (Z2.out.below hb3)
  obtain ⟨q0, q1, z0, z1, zl⟩ := Z3.out.facts
  have HB3 := Lib.hid (HB2.out.trans (hb3.mono HB2.out.size))
  have HV3 := Lib.hid hv3
  clear hv3 hb3
  go_wp2
  obtain ⟨W4, hW4, Z, hb4, hv4, -, -, -⟩ := stored_world Z3.out HB3.out (by omega) s3 A3 n3 c3
  rw [hW4]
  have HV4 := Lib.hid (hv4 _ _ HV3.out)
  obtain ⟨c0, c1', -, -, -⟩ := Z.facts
  clear q0 q1 z0 z1 zl hW4 hv4
  refine bodyPost_ret (v := .agg #[.bool s3, .slice A3 n3 c3]) (by simp [results, Tryz.results66, go_sem, c0, c1']) rfl ?_
  exact ⟨_, _, _, _, rfl, HV4.out, hb4⟩

set_option maxRecDepth 100000 in
set_option maxHeartbeats 2000000 in
theorem rof2c_neg (k : Nat) (hm : k ≤ 9223372036854775807) (w : World) :
    Calls Tryz.prog 66 #[.int .i64 (-(k : Int) - 1)] w (RetO w (sg true (k + 1))) := by
  obtain ⟨hb0, x0⟩ := newc1 w
  have HB0 := Lib.hid hb0
  have X0 := Lib.hid x0
  have H1 := Lib.hid (rofc_any k (w.alloc (.cells #[.bool false, .slice none 0 0] 25)) (by omega))
  have hneg : decide (0 ≤ -(k : Int) - 1) = false := decide_eq_false (by omega)
  have hsub : -1 - (-(k : Int) - 1) = (k : Int) := by omega
  clear hb0 x0
  go_enter Tryz.func66, Tryz.ntmps66
  go_wp2_with fail
  refine H1.out.mono ?_
  rintro e w2 ⟨⟨v, rfl, A1, c1, r1, rfl, ⟨hcc, hcm⟩, h3, h4, h5⟩, hb2⟩
  have hl := small_len2 h4 (by omega)
  have hb3 : Below w.heap.size w (w2.alloc (.cells #[.int .u32 1] 60)) := (HB0.out.trans (hb2.mono HB0.out.size)).alloc (HB0.out.trans (hb2.mono HB0.out.size)).size _
  have r1n : Rd (w2.alloc (.cells #[.int .u32 1] 60)) (some ⟨w2.heap.size, 0, none⟩) [1] := rd_new w2 [1]
  have HP := Lib.hid (rplusc_any A1 (some ⟨w2.heap.size, 0, none⟩) c1 1 r1 [1] _ (h3.alloc _) r1n h4.1 (lm_of (by decide)) (by omega) (by decide))
  rw [h5, show val [1] = 1 from rfl] at HP
  have Z1 := Lib.hid ((X0.out.below hb2).alloc (.cells #[.int .u32 1] 60))
  have HB1 := Lib.hid hb3
  clear h3 h4 h5 hb2 hb3 r1n
  go_wp2_with fail
  refine HP.out.mono ?_
  rintro e w5 ⟨⟨v, rfl, A2, c2, r2, rfl, ⟨hcc, hcm⟩, h3, h4, h5⟩, hb5⟩
  have hl2 := small_len2 h4 (by omega)
  have HM := Lib.hid (rmadec_num true A2 c2 r2 w5 (by omega) hcc hcm h3 h4)
  rw [h5] at HM
  have Z2 := Lib.hid (Z1.out.below hb5)
  have HB2 := Lib.hid (HB1.out.trans (hb5.mono HB1.out.size))
  clear h3 h4 h5 hb5
  go_wp2_with fail
  refine HM.out.mono ?_
  rintro e w3 ⟨s3, A3, n3, c3, rfl, hv3, hb3⟩
  have Z3 := Lib.hid (Z2.out.below hb3)
  obtain ⟨q0, q1, z0, z1, zl⟩ := Z3.out.facts
  have HB3 := Lib.hid (HB2.out.trans (hb3.mono HB2.out.size))
  have HV3 := Lib.hid hv3
  clear hv3 hb3
  go_wp2
  obtain ⟨W4, hW4, Z, hb4, hv4, -, -, -⟩ := stored_world Z3.out HB3.out (by omega) s3 A3 n3 c3
  rw [hW4]
  have HV4 := Lib.hid (hv4 _ _ HV3.out)
  obtain ⟨c0, c1', -, -, -⟩ := Z.facts
  clear q0 q1 z0 z1 zl hW4 hv4
  refine bodyPost_ret (v := .agg #[.bool s3, .slice A3 n3 c3]) (by simp [results, Tryz.results66, go_sem, c0, c1']) rfl ?_
  exact ⟨_, _, _, _, rfl, HV4.out, hb4⟩

theorem rof2c_int (z : Int) (h1 : -9223372036854775808 ≤ z) (h2 : z ≤ 9223372036854775807) (w : World) : Calls Tryz.prog 66 #[.int .i64 z] w (RetO w z) := by
  by_cases h : z < 0
  · obtain ⟨k, rfl⟩ : ∃ k : Nat, z = -(k : Int) - 1 := ⟨(-z - 1).toNat, by omega⟩
    have := rof2c_neg k (by omega) w
    rw [show sg true (k + 1) = -(k : Int) - 1 from by simp [sg]; omega] at this
    exact this
  · obtain ⟨m, rfl⟩ : ∃ m : Nat, z = (m : Int) := ⟨z.natAbs, by omega⟩
    have := rof2c_pos m (by omega) w
    rw [show sg false m = (m : Int) from rfl] at this
    exact this

end LM
end Go.Proofs.YtnpmfailpgbggaaGreatDoor
