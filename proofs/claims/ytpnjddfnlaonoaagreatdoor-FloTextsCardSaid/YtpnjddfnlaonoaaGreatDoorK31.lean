/- The walk of exact's Pow: under way. -/
import Derived.Test.YtpnjddfnlaonoaaGreatDoorK25
import Derived.Test.YtpnjddfnlaonoaaGreatDoorK29
import Derived.Deep.RegionHeld3
import Derived.Test.YtpnjddfnlaonoaaGreatDoorK28
import Derived.Test.YtpnjddfnlaonoaaGreatDoorK30
import Derived.Test.YtpnjddfnlaonoaaGreatDoorK15
import Derived.Test.YtpnjddfnlaonoaaGreatDoorK32
import Derived.LoopTactic
import Derived.Deep.LoopGhost
import Derived.Deep.DeepCutAuto
namespace Go.Proofs.YtpnjddfnlaonoaaGreatDoor
open Go.RowKit
namespace LM
set_option linter.unusedVariables false

/-- small enough for the document's own sums and products -/
def FitI (z : Int) : Prop := z.natAbs < 4294967296 ^ 130
theorem fit_len {r : List Nat} {z : Int} (hc : Can r) (hv : val r = z.natAbs) (hf : FitI z) : r.length ≤ 130 := by
  rcases Nat.lt_or_ge 130 r.length with h | h
  · have := (can_len hc 130).1 h
    rw [hv] at this
    exact absurd hf (by unfold FitI; omega)
  · exact h
theorem IntR.parts {w : World} {b : Bool} {A : Option Addr} {n c : Nat} {z : Int} (h : IntR w (.agg #[.bool b, .slice A n c]) z) : b = decide (z < 0) ∧ (n = 0 ↔ z = 0) ∧ (FitI z → n ≤ 130) ∧ (64 < n ↔ BigI z) := by
  obtain ⟨A', c', r, e, h3, h4, h5⟩ := h
  simp only [Value.agg.injEq, Array.mk.injEq, List.cons.injEq, Value.bool.injEq, Value.slice.injEq, and_true] at e
  obtain ⟨rfl, rfl, rfl, rfl⟩ := e
  refine ⟨rfl, by rw [can_zero h4, h5]; omega, fun hf => fit_len h4 h5 hf, ?_⟩
  unfold BigI
  rw [big_iff h4, h5]
theorem IntR.alloc {w : World} {v : Value} {z : Int} (h : IntR w v z) (o : Obj) : IntR (w.alloc o) v z := h.keep ((Below.refl _ _).alloc (Nat.le_refl _) _)
theorem IntR.drew {w : World} {v : Value} {z : Int} (h : IntR w v z) : IntR w.drew v z := h.keep (Below.refl _ _).drew

/-- the document's answer, capped -/
def RetC (w : World) (z : Int) (e : Ending) (w' : World) : Prop := ∃ s A n c er, e = .returned (.tuple #[.agg #[.bool s, .slice A n c], .int .i64 er]) ∧
  ((BigI z ∧ er = 11 ∧ IntR w' (.agg #[.bool s, .slice A n c]) 0) ∨ (¬ BigI z ∧ er = 0 ∧ IntR w' (.agg #[.bool s, .slice A n c]) z)) ∧ Below w.heap.size w w'
/-- structs that lie in these blocks -/
def Bxs (w : World) (L : List (Nat × Bool × Option Addr × Nat × Nat)) : Prop := ∀ p ∈ L, Bx w p.1 p.2.1 p.2.2.1 p.2.2.2.1 p.2.2.2.2
/-- values that read as these whole numbers -/
def Rs (w : World) (L : List (Value × Int)) : Prop := ∀ p ∈ L, IntR w p.1 p.2
section
variable {w w' : World} {L : List (Nat × Bool × Option Addr × Nat × Nat)} {M : List (Value × Int)}
theorem Bxs.nil : Bxs w [] := fun p h => by cases h
theorem Bxs.cons {g : Nat} {b : Bool} {A : Option Addr} {n c : Nat} (h : Bx w g b A n c) (hs : Bxs w L) : Bxs w ((g, b, A, n, c) :: L) := fun p hp => by
  rcases List.mem_cons.1 hp with rfl | hp
  · exact h
  · exact hs p hp
theorem Bxs.below (h : Bxs w L) (hb : Below w.heap.size w w') : Bxs w' L := fun p hp => (h p hp).below hb
theorem Bxs.alloc (h : Bxs w L) (o : Obj) : Bxs (w.alloc o) L := fun p hp => (h p hp).alloc o
theorem Bxs.drew (h : Bxs w L) : Bxs w.drew L := h
theorem Bxs.new (h : Bxs w L) (b : Bool) (A : Option Addr) (n c : Nat) : Bxs (w.alloc (.cells #[.bool b, .slice A n c] 36)) ((w.heap.size, b, A, n, c) :: L) := (h.alloc _).cons (Bx.new w b A n c)
theorem Bxs.hd {g : Nat} {b : Bool} {A : Option Addr} {n c : Nat} (h : Bxs w ((g, b, A, n, c) :: L)) : Bx w g b A n c := h _ (List.mem_cons_self ..)
theorem Bxs.tl {p : Nat × Bool × Option Addr × Nat × Nat} (h : Bxs w (p :: L)) : Bxs w L := fun q hq => h q (List.mem_cons_of_mem _ hq)
theorem Rs.nil : Rs w [] := fun p h => by cases h
theorem Rs.cons {v : Value} {z : Int} (h : IntR w v z) (hs : Rs w M) : Rs w ((v, z) :: M) := fun p hp => by
  rcases List.mem_cons.1 hp with rfl | hp
  · exact h
  · exact hs p hp
theorem Rs.keep (h : Rs w M) (hb : Below w.heap.size w w') : Rs w' M := fun p hp => (h p hp).keep hb
theorem Rs.alloc (h : Rs w M) (o : Obj) : Rs (w.alloc o) M := fun p hp => (h p hp).alloc o
theorem Rs.drew (h : Rs w M) : Rs w.drew M := h.keep (Below.refl _ _).drew
theorem Rs.hd {v : Value} {z : Int} (h : Rs w ((v, z) :: M)) : IntR w v z := h _ (List.mem_cons_self ..)
theorem Rs.tl {p : Value × Int} (h : Rs w (p :: M)) : Rs w M := fun q hq => h q (List.mem_cons_of_mem _ hq)
end
/-- the outcome of a reckoning that may be too great, by one number -/
def Out (z zr er : Int) : Prop := (BigI z ∧ er = 11 ∧ zr = 0) ∨ (¬ BigI z ∧ er = 0 ∧ zr = z)
theorem Out.same {z a b e f : Int} (h : Out z a e) (k : Out z b f) : a = b ∧ e = f := by
  rcases h with ⟨h1, rfl, rfl⟩ | ⟨h1, rfl, rfl⟩ <;> rcases k with ⟨k1, rfl, rfl⟩ | ⟨k1, rfl, rfl⟩
  · exact ⟨rfl, rfl⟩
  · exact absurd h1 k1
  · exact absurd k1 h1
  · exact ⟨rfl, rfl⟩
theorem RetE.out {w w' : World} {z : Int} {e : Ending} (h : RetE w z e w') : ∃ s A n c er zr, e = .returned (.tuple #[.agg #[.bool s, .slice A n c], .int .i64 er]) ∧ IntV w' (.agg #[.bool s, .slice A n c]) zr ∧ Out z zr er ∧ Below w.heap.size w w' := by
  obtain ⟨s, A, n, c, er, rfl, ⟨h1, h2, h3⟩ | ⟨h1, h2, h3⟩, hb⟩ := h
  · exact ⟨s, A, n, c, er, 0, rfl, h3, .inl ⟨h1, h2, rfl⟩, hb⟩
  · exact ⟨s, A, n, c, er, z, rfl, h3, .inr ⟨h1, h2, rfl⟩, hb⟩
theorem RetC.out {w w' : World} {z : Int} {e : Ending} (h : RetC w z e w') : ∃ s A n c er zr, e = .returned (.tuple #[.agg #[.bool s, .slice A n c], .int .i64 er]) ∧ IntR w' (.agg #[.bool s, .slice A n c]) zr ∧ Out z zr er ∧ Below w.heap.size w w' := by
  obtain ⟨s, A, n, c, er, rfl, ⟨h1, h2, h3⟩ | ⟨h1, h2, h3⟩, hb⟩ := h
  · exact ⟨s, A, n, c, er, 0, rfl, h3, .inl ⟨h1, h2, rfl⟩, hb⟩
  · exact ⟨s, A, n, c, er, z, rfl, h3, .inr ⟨h1, h2, rfl⟩, hb⟩
end LM
end Go.Proofs.YtpnjddfnlaonoaaGreatDoor

namespace Go.Proofs.YtpnjddfnlaonoaaGreatDoor
open Go.RowKit
namespace LM
set_option linter.unusedVariables false

/-- what a division comes to -/
def QOut (x y q r e : Int) : Prop := (y = 0 ∧ e = 12 ∧ q = 0 ∧ r = 0) ∨ (y ≠ 0 ∧ e = 0 ∧ q = quoI x y ∧ r = remI x y)
def MOut (x y m e : Int) : Prop := (y = 0 ∧ e = 12 ∧ m = 0) ∨ (y ≠ 0 ∧ e = 0 ∧ m = modI x y)
theorem QOut.same {x y a b c d e f : Int} (h : QOut x y a b e) (k : QOut x y c d f) : a = c ∧ b = d ∧ e = f := by
  rcases h with ⟨h1, rfl, rfl, rfl⟩ | ⟨h1, rfl, rfl, rfl⟩ <;> rcases k with ⟨k1, rfl, rfl, rfl⟩ | ⟨k1, rfl, rfl, rfl⟩
  · exact ⟨rfl, rfl, rfl⟩
  · exact absurd h1 k1
  · exact absurd k1 h1
  · exact ⟨rfl, rfl, rfl⟩
theorem MOut.same {x y a b e f : Int} (h : MOut x y a e) (k : MOut x y b f) : a = b ∧ e = f := by
  rcases h with ⟨h1, rfl, rfl⟩ | ⟨h1, rfl, rfl⟩ <;> rcases k with ⟨k1, rfl, rfl⟩ | ⟨k1, rfl, rfl⟩
  · exact ⟨rfl, rfl⟩
  · exact absurd h1 k1
  · exact absurd k1 h1
  · exact ⟨rfl, rfl⟩
theorem RetQ.out {w w' : World} {x y : Int} {e : Ending} (h : RetQ w x y e w') : ∃ s A n c s' A' n' c' er q r, e = .returned (.tuple #[.agg #[.bool s, .slice A n c], .agg #[.bool s', .slice A' n' c'], .int .i64 er]) ∧
    IntV w' (.agg #[.bool s, .slice A n c]) q ∧ IntV w' (.agg #[.bool s', .slice A' n' c']) r ∧ QOut x y q r er ∧ Below w.heap.size w w' := by
  obtain ⟨s, A, n, c, s', A', n', c', er, rfl, ⟨h1, h2, h3, h4⟩ | ⟨h1, h2, h3, h4⟩, hb⟩ := h
  · exact ⟨s, A, n, c, s', A', n', c', er, 0, 0, rfl, h3, h4, .inl ⟨h1, h2, rfl, rfl⟩, hb⟩
  · exact ⟨s, A, n, c, s', A', n', c', er, _, _, rfl, h3, h4, .inr ⟨h1, h2, rfl, rfl⟩, hb⟩
theorem RetM.out {w w' : World} {x y : Int} {e : Ending} (h : RetM w x y e w') : ∃ s A n c er m, e = .returned (.tuple #[.agg #[.bool s, .slice A n c], .int .i64 er]) ∧ IntV w' (.agg #[.bool s, .slice A n c]) m ∧ MOut x y m er ∧ Below w.heap.size w w' := by
  obtain ⟨s, A, n, c, er, rfl, ⟨h1, h2, h3⟩ | ⟨h1, h2, h3⟩, hb⟩ := h
  · exact ⟨s, A, n, c, er, 0, rfl, h3, .inl ⟨h1, h2, rfl⟩, hb⟩
  · exact ⟨s, A, n, c, er, _, rfl, h3, .inr ⟨h1, h2, rfl⟩, hb⟩
end LM
end Go.Proofs.YtpnjddfnlaonoaaGreatDoor

namespace Go.Proofs.YtpnjddfnlaonoaaGreatDoor
open Go.RowKit
namespace LM
set_option linter.unusedVariables false

def PowE (w : World) (o : Option Int) (e : Ending) (w' : World) : Prop := ∃ s A n c er, e = .returned (.tuple #[.agg #[.bool s, .slice A n c], .int .i64 er]) ∧
  ((o = none ∧ er = 11 ∧ IntV w' (.agg #[.bool s, .slice A n c]) 0) ∨ (∃ z, o = some z ∧ er = 0 ∧ IntV w' (.agg #[.bool s, .slice A n c]) z)) ∧ Below w.heap.size w w'
theorem SmallE.inn' {x : Int} {e : Ending} (h : SmallE x e) (h1 : -9223372036854775808 ≤ x) (h2 : x ≤ 9223372036854775807) : e = .returned (.tuple #[.int .i64 x, .bool true]) := by
  rcases h with ⟨_, _, h3⟩ | ⟨h3, _⟩
  · exact h3
  · exact absurd ⟨h1, h2⟩ h3
/-- where Pow stands ahead of its rounds -/
def PwS (w wx : World) (g8 g9 : Nat) (p a : Int) : Prop := ∃ s8 A8 n8 c8 s9 A9 n9 c9, w.heap.size ≤ g8 ∧ w.heap.size ≤ g9 ∧ g8 ≠ g9 ∧ g8 ≠ w.heap.size + 1 + 1 ∧ g9 ≠ w.heap.size + 1 + 1 ∧
  Bx wx g8 s8 A8 n8 c8 ∧ Bx wx g9 s9 A9 n9 c9 ∧ Bx wx (w.heap.size + 1 + 1) false none 0 0 ∧ IntV wx (.agg #[.bool s8, .slice A8 n8 c8]) p ∧ IntV wx (.agg #[.bool s9, .slice A9 n9 c9]) a ∧ Below w.heap.size w wx

theorem le1 {w w2 : World} {o : Obj} (hb : Below (w.alloc o).drew.heap.size (w.alloc o).drew w2) : w.heap.size + 1 ≤ w2.heap.size := by
  have h : (w.alloc o).heap.size ≤ w2.heap.size := hb.size
  rw [World.size_alloc] at h
  exact h
theorem le2 {w w2 : World} {o o' : Obj} (hb : Below ((w.alloc o).alloc o').drew.heap.size ((w.alloc o).alloc o').drew w2) : w.heap.size + 1 + 1 ≤ w2.heap.size := by
  have h : ((w.alloc o).alloc o').heap.size ≤ w2.heap.size := hb.size
  rw [World.size_alloc, World.size_alloc] at h
  exact h
/-- blocks, and two whole numbers that abide -/
def Qs (w W : World) (L : List (Nat × Bool × Option Addr × Nat × Nat)) (v1 va : Value) (p a : Int) : Prop := Bxs W L ∧ IntV W v1 p ∧ IntV W va a ∧ Below w.heap.size w W
section
variable {w W : World} {L : List (Nat × Bool × Option Addr × Nat × Nat)} {v1 va : Value} {p a : Int}
theorem Qs.new (h : Qs w W L v1 va p a) (b : Bool) (A : Option Addr) (n c g : Nat) (hg : g = W.heap.size) : Qs w (W.alloc (.cells #[.bool b, .slice A n c] 36)) ((g, b, A, n, c) :: L) v1 va p a := by
  subst hg
  exact ⟨h.1.new b A n c, h.2.1.alloc _, h.2.2.1.alloc _, h.2.2.2.alloc h.2.2.2.size _⟩
theorem Bxs.setr {g : Nat} (h : Bxs W L) (hL : ∀ q ∈ L, q.1 ≠ g) (u u' : Value) : Bxs ((W.setCell ⟨g, 0, none⟩ u).setCell ⟨g, 1, none⟩ u') L := fun q hq => ((h q hq).set (p := ⟨g, 0, none⟩) u (hL q hq)).set (p := ⟨g, 1, none⟩) u' (hL q hq)
theorem Qs.st0 {g : Nat} {b : Bool} {A : Option Addr} {n c : Nat} (h : Qs w W ((g, b, A, n, c) :: L) v1 va p a) (hL : ∀ q ∈ L, q.1 ≠ g) (hg : w.heap.size ≤ g) (b' : Bool) (A' : Option Addr) (n' c' : Nat) :
    Qs w ((W.setCell ⟨g, 0, none⟩ (.bool b')).setCell ⟨g, 1, none⟩ (.slice A' n' c')) ((g, b', A', n', c') :: L) v1 va p a :=
  ⟨(h.1.tl.setr hL _ _).cons h.1.hd.stored, h.2.1.stored h.1.hd _ _, h.2.2.1.stored h.1.hd _ _, below_stored h.2.2.2 hg _ _⟩
theorem Qs.st1 {q0 : Nat × Bool × Option Addr × Nat × Nat} {g : Nat} {b : Bool} {A : Option Addr} {n c : Nat} (h : Qs w W (q0 :: (g, b, A, n, c) :: L) v1 va p a) (h0 : q0.1 ≠ g) (hL : ∀ q ∈ L, q.1 ≠ g) (hg : w.heap.size ≤ g) (b' : Bool) (A' : Option Addr) (n' c' : Nat) :
    Qs w ((W.setCell ⟨g, 0, none⟩ (.bool b')).setCell ⟨g, 1, none⟩ (.slice A' n' c')) (q0 :: (g, b', A', n', c') :: L) v1 va p a :=
  ⟨Bxs.cons (((h.1.hd).set (p := ⟨g, 0, none⟩) _ h0).set (p := ⟨g, 1, none⟩) _ h0) ((h.1.tl.tl.setr hL _ _).cons h.1.tl.hd.stored), h.2.1.stored h.1.tl.hd _ _, h.2.2.1.stored h.1.tl.hd _ _, below_stored h.2.2.2 hg _ _⟩
theorem one_ne {r g : Nat} {b : Bool} {A : Option Addr} {n c : Nat} (h : r ≠ g) : ∀ q ∈ [((r, b, A, n, c) : Nat × Bool × Option Addr × Nat × Nat)], q.1 ≠ g := fun q hq => by
  rw [List.mem_singleton] at hq
  subst hq
  exact h
theorem two_ne {r k g : Nat} {b b' : Bool} {A A' : Option Addr} {n c n' c' : Nat} (h : r ≠ g) (h' : k ≠ g) : ∀ q ∈ [((k, b', A', n', c') : Nat × Bool × Option Addr × Nat × Nat), (r, b, A, n, c)], q.1 ≠ g := fun q hq => by
  rcases List.mem_cons.1 hq with rfl | hq
  · exact h'
  · exact one_ne h q hq
theorem Qs.o89 {g8 g9 : Nat} {s8 s9 : Bool} {A8 A9 : Option Addr} {n8 c8 n9 c9 : Nat} (h : Qs w W [(g9, s9, A9, n9, c9), (g8, s8, A8, n8, c8), (w.heap.size + 1 + 1, false, none, 0, 0)] (.agg #[.bool s8, .slice A8 n8 c8]) (.agg #[.bool s9, .slice A9 n9 c9]) p a)
    (h8 : w.heap.size + 1 + 1 < g8) (h9 : w.heap.size + 1 + 1 < g9) (hn : g8 ≠ g9) : PwS w W g8 g9 p a :=
  ⟨_, _, _, _, _, _, _, _, by omega, by omega, hn, by omega, by omega, h.1.tl.hd, h.1.hd, h.1.tl.tl.hd, h.2.1, h.2.2.1, h.2.2.2⟩
theorem Qs.o98 {g8 g9 : Nat} {s8 s9 : Bool} {A8 A9 : Option Addr} {n8 c8 n9 c9 : Nat} (h : Qs w W [(g8, s8, A8, n8, c8), (g9, s9, A9, n9, c9), (w.heap.size + 1 + 1, false, none, 0, 0)] (.agg #[.bool s8, .slice A8 n8 c8]) (.agg #[.bool s9, .slice A9 n9 c9]) p a)
    (h8 : w.heap.size + 1 + 1 < g8) (h9 : w.heap.size + 1 + 1 < g9) (hn : g8 ≠ g9) : PwS w W g8 g9 p a :=
  ⟨_, _, _, _, _, _, _, _, by omega, by omega, hn, by omega, by omega, h.1.hd, h.1.tl.hd, h.1.tl.tl.hd, h.2.1, h.2.2.1, h.2.2.2⟩
end
theorem bel1 {B : Nat} {w W : World} (h : Below B w W) (o : Obj) (hB : B ≤ w.heap.size := by exact Nat.le_refl _) : Below B w (W.alloc o).drew := (h.alloc (Nat.le_trans hB h.size) o).drew
theorem bel2 {B : Nat} {w W : World} (h : Below B w W) (o o' : Obj) (hB : B ≤ w.heap.size := by exact Nat.le_refl _) : Below B w ((W.alloc o).alloc o').drew := ((h.alloc (Nat.le_trans hB h.size) o).alloc (Nat.le_trans hB (by have := h.size; simp; omega)) o').drew
theorem bel_trans {B : Nat} {w W w2 : World} (h : Below B w W) (hb : Below W.heap.size W w2) (hB : B ≤ w.heap.size := by exact Nat.le_refl _) : Below B w w2 := h.trans (hb.mono (Nat.le_trans hB h.size))
theorem one_new {w w2 : World} {b : Bool} {A : Option Addr} {n c : Nat} (hb : Below (w.alloc (.cells #[.bool b, .slice A n c] 36)).drew.heap.size (w.alloc (.cells #[.bool b, .slice A n c] 36)).drew w2) : Bx w2 w.heap.size b A n c := (Bx.new w b A n c).drew.below hb
theorem two_fst {w w2 : World} {o : Obj} {b : Bool} {A : Option Addr} {n c : Nat} (hb : Below ((w.alloc (.cells #[.bool b, .slice A n c] 36)).alloc o).drew.heap.size ((w.alloc (.cells #[.bool b, .slice A n c] 36)).alloc o).drew w2) : Bx w2 w.heap.size b A n c := ((Bx.new w b A n c).alloc o).drew.below hb
theorem two_snd {w w2 : World} {o : Obj} {b : Bool} {A : Option Addr} {n c : Nat} (hb : Below ((w.alloc o).alloc (.cells #[.bool b, .slice A n c] 36)).drew.heap.size ((w.alloc o).alloc (.cells #[.bool b, .slice A n c] 36)).drew w2) : Bx w2 (w.heap.size + 1) b A n c := by
  have h := (Bx.new (w.alloc o) b A n c).drew.below hb
  rw [World.size_alloc] at h
  exact h

section
variable {w w2 : World} {K : Nat} {s s2 b1 b2 : Bool} {A A2 A1 B2 : Option Addr} {n c n2 c2 n1 c1 m2 d2 : Nat} {p a : Int}
theorem pw_fin0 (q : Qs w w2 [(w.heap.size + 1 + 1, false, none, 0, 0)] (.agg #[.bool s2, .slice A2 n2 c2]) (.agg #[.bool s, .slice A n c]) p a) (hN : w.heap.size + 1 + 1 < K) (hl : K ≤ w2.heap.size) :
    PwS w ((w2.alloc (.cells #[.bool s2, .slice A2 n2 c2] 36)).alloc (.cells #[.bool s, .slice A n c] 36)) w2.heap.size (w2.heap.size + 1) p a :=
  ((q.new _ _ _ _ _ (by simp)).new _ _ _ _ _ (by simp)).o89 (by omega) (by omega) (by omega)
theorem pw_fin1 (q : Qs w w2 [(w.heap.size + 1 + 1, false, none, 0, 0)] (.agg #[.bool s2, .slice A2 n2 c2]) (.agg #[.bool s, .slice A n c]) p a) (hN : w.heap.size + 1 + 1 < K) (hl : K ≤ w2.heap.size) :
    PwS w ((w2.alloc (.cells #[.bool s, .slice A n c] 36)).alloc (.cells #[.bool s2, .slice A2 n2 c2] 36)) (w2.heap.size + 1) w2.heap.size p a :=
  ((q.new _ _ _ _ _ (by simp)).new _ _ _ _ _ (by simp)).o98 (by omega) (by omega) (by omega)
theorem pw_fin2 (q : Qs w w2 [(K, b1, A1, n1, c1), (w.heap.size + 1 + 1, false, none, 0, 0)] (.agg #[.bool s2, .slice A2 n2 c2]) (.agg #[.bool s, .slice A n c]) p a) (hN : w.heap.size + 1 + 1 < K) (hl : K + 1 ≤ w2.heap.size) :
    PwS w (((w2.setCell ⟨K, 0, none⟩ (.bool s2)).setCell ⟨K, 1, none⟩ (.slice A2 n2 c2)).alloc (.cells #[.bool s, .slice A n c] 36)) K w2.heap.size p a :=
  ((q.st0 (one_ne (by omega)) (by omega) _ _ _ _).new _ _ _ _ _ (by simp)).o89 (by omega) (by omega) (by omega)
theorem pw_fin3 (q : Qs w w2 [(K, b1, A1, n1, c1), (w.heap.size + 1 + 1, false, none, 0, 0)] (.agg #[.bool s2, .slice A2 n2 c2]) (.agg #[.bool s, .slice A n c]) p a) (hN : w.heap.size + 1 + 1 < K) (hl : K + 1 ≤ w2.heap.size) :
    PwS w (((w2.setCell ⟨K, 0, none⟩ (.bool s)).setCell ⟨K, 1, none⟩ (.slice A n c)).alloc (.cells #[.bool s2, .slice A2 n2 c2] 36)) w2.heap.size K p a :=
  ((q.st0 (one_ne (by omega)) (by omega) _ _ _ _).new _ _ _ _ _ (by simp)).o98 (by omega) (by omega) (by omega)
theorem pw_fin4 (q : Qs w w2 [(K, s, A, n, c), (w.heap.size + 1 + 1, false, none, 0, 0)] (.agg #[.bool s2, .slice A2 n2 c2]) (.agg #[.bool s, .slice A n c]) p a) (hN : w.heap.size + 1 + 1 < K) (hl : K + 1 ≤ w2.heap.size) :
    PwS w (w2.alloc (.cells #[.bool s2, .slice A2 n2 c2] 36)) w2.heap.size K p a :=
  (q.new _ _ _ _ _ (by simp)).o98 (by omega) (by omega) (by omega)
theorem pw_fin5 (q : Qs w w2 [(K + 1, b2, B2, m2, d2), (K, b1, A1, n1, c1), (w.heap.size + 1 + 1, false, none, 0, 0)] (.agg #[.bool s2, .slice A2 n2 c2]) (.agg #[.bool s, .slice A n c]) p a) (hN : w.heap.size + 1 + 1 < K) (hl : K + 1 + 1 ≤ w2.heap.size) :
    PwS w ((((w2.setCell ⟨K, 0, none⟩ (.bool s2)).setCell ⟨K, 1, none⟩ (.slice A2 n2 c2)).setCell ⟨(K + 1), 0, none⟩ (.bool s)).setCell ⟨(K + 1), 1, none⟩ (.slice A n c)) K (K + 1) p a :=
  ((q.st1 (by simp) (one_ne (by omega)) (by omega) _ _ _ _).st0 (two_ne (by omega) (by omega)) (by omega) _ _ _ _).o89 (by omega) (by omega) (by omega)
theorem pw_fin6 (q : Qs w w2 [(K + 1, b2, B2, m2, d2), (K, b1, A1, n1, c1), (w.heap.size + 1 + 1, false, none, 0, 0)] (.agg #[.bool s2, .slice A2 n2 c2]) (.agg #[.bool s, .slice A n c]) p a) (hN : w.heap.size + 1 + 1 < K) (hl : K + 1 + 1 ≤ w2.heap.size) :
    PwS w ((((w2.setCell ⟨(K + 1), 0, none⟩ (.bool s)).setCell ⟨(K + 1), 1, none⟩ (.slice A n c)).setCell ⟨K, 0, none⟩ (.bool s2)).setCell ⟨K, 1, none⟩ (.slice A2 n2 c2)) K (K + 1) p a :=
  ((q.st0 (two_ne (by omega) (by omega)) (by omega) _ _ _ _).st1 (by simp) (one_ne (by omega)) (by omega) _ _ _ _).o89 (by omega) (by omega) (by omega)
theorem pw_fin7 (q : Qs w w2 [(K + 1, s, A, n, c), (K, b1, A1, n1, c1), (w.heap.size + 1 + 1, false, none, 0, 0)] (.agg #[.bool s2, .slice A2 n2 c2]) (.agg #[.bool s, .slice A n c]) p a) (hN : w.heap.size + 1 + 1 < K) (hl : K + 1 + 1 ≤ w2.heap.size) :
    PwS w ((w2.setCell ⟨K, 0, none⟩ (.bool s2)).setCell ⟨K, 1, none⟩ (.slice A2 n2 c2)) K (K + 1) p a :=
  (q.st1 (by simp) (one_ne (by omega)) (by omega) _ _ _ _).o89 (by omega) (by omega) (by omega)
theorem pw_fin8 (q : Qs w w2 [(K + 1, b2, B2, m2, d2), (K, b1, A1, n1, c1), (w.heap.size + 1 + 1, false, none, 0, 0)] (.agg #[.bool s2, .slice A2 n2 c2]) (.agg #[.bool s, .slice A n c]) p a) (hN : w.heap.size + 1 + 1 < K) (hl : K + 1 + 1 ≤ w2.heap.size) :
    PwS w ((((w2.setCell ⟨(K + 1), 0, none⟩ (.bool s2)).setCell ⟨(K + 1), 1, none⟩ (.slice A2 n2 c2)).setCell ⟨K, 0, none⟩ (.bool s)).setCell ⟨K, 1, none⟩ (.slice A n c)) (K + 1) K p a :=
  ((q.st0 (two_ne (by omega) (by omega)) (by omega) _ _ _ _).st1 (by simp) (one_ne (by omega)) (by omega) _ _ _ _).o98 (by omega) (by omega) (by omega)
theorem pw_fin9 (q : Qs w w2 [(K + 1, b2, B2, m2, d2), (K, b1, A1, n1, c1), (w.heap.size + 1 + 1, false, none, 0, 0)] (.agg #[.bool s2, .slice A2 n2 c2]) (.agg #[.bool s, .slice A n c]) p a) (hN : w.heap.size + 1 + 1 < K) (hl : K + 1 + 1 ≤ w2.heap.size) :
    PwS w ((((w2.setCell ⟨K, 0, none⟩ (.bool s)).setCell ⟨K, 1, none⟩ (.slice A n c)).setCell ⟨(K + 1), 0, none⟩ (.bool s2)).setCell ⟨(K + 1), 1, none⟩ (.slice A2 n2 c2)) (K + 1) K p a :=
  ((q.st1 (by simp) (one_ne (by omega)) (by omega) _ _ _ _).st0 (two_ne (by omega) (by omega)) (by omega) _ _ _ _).o98 (by omega) (by omega) (by omega)
theorem pw_fin10 (q : Qs w w2 [(K + 1, b2, B2, m2, d2), (K, s, A, n, c), (w.heap.size + 1 + 1, false, none, 0, 0)] (.agg #[.bool s2, .slice A2 n2 c2]) (.agg #[.bool s, .slice A n c]) p a) (hN : w.heap.size + 1 + 1 < K) (hl : K + 1 + 1 ≤ w2.heap.size) :
    PwS w ((w2.setCell ⟨(K + 1), 0, none⟩ (.bool s2)).setCell ⟨(K + 1), 1, none⟩ (.slice A2 n2 c2)) (K + 1) K p a :=
  (q.st0 (two_ne (by omega) (by omega)) (by omega) _ _ _ _).o98 (by omega) (by omega) (by omega)
end


end LM
end Go.Proofs.YtpnjddfnlaonoaaGreatDoor

namespace Go.Proofs.YtpnjddfnlaonoaaGreatDoor
open Go.RowKit
namespace LM
set_option linter.unusedVariables false

theorem intV_zero (w : World) : IntV w (.agg #[.bool false, .slice none 0 0]) 0 := ⟨none, 0, [], rfl, by decide, by decide, Rd.nil, can_nil, rfl⟩

set_option maxRecDepth 100000 in
set_option maxHeartbeats 40000000 in
theorem epow_go (s t : Bool) (A B : Option Addr) (n c m d : Nat) (a : Int) (k : Nat) (w : World) (ha : IntV w (.agg #[.bool s, .slice A n c]) a) (hn : IntV w (.agg #[.bool t, .slice B m d]) (k : Int)) (na : ¬ BigI a) (hk : k ≤ 1000) :
    Calls Tryz.prog 86 #[.agg #[.bool s, .slice A n c], .agg #[.bool t, .slice B m d]] w (PowE w (powI k 1 a)) := by
  obtain ⟨hb0, x0, y0, z0⟩ := new3 w s t A B n c m d
  have HB0 := Lib.hid hb0
  have XS0 := Lib.hid (((Bxs.nil.cons z0).cons y0).cons x0)
  have VA0 := Lib.hid (ha.keep hb0)
  have C1 := Lib.hid (esmall_int (hn.keep hb0))
  have NA := Lib.hid na
  have d1 : decide ((k : Int) < 0) = false := decide_eq_false (by omega)
  have d2 : decide (1000 < (k : Int)) = false := decide_eq_false (by omega)
  have d3 : decide (1000 < k) = false := decide_eq_false (by omega)
  have HOF : Hid (∀ W, Calls Tryz.prog 84 #[.int .i64 1] W (RetI W 1)) := Lib.hid (eof_int 1 (by decide) (by decide))
  clear hb0 x0 y0 z0 ha hn na
  go_enter Tryz.func86, Tryz.ntmps86
  go_wp2_with fail
  refine C1.out.mono ?_
  rintro e w1 ⟨he1, hb1⟩
  obtain rfl := he1.inn' (by omega) (by omega)
  have XS1 := Lib.hid (XS0.out.below hb1)
  have HB1 := Lib.hid (HB0.out.trans (hb1.mono HB0.out.size))
  have VA1 := Lib.hid (VA0.out.keep hb1)
  obtain ⟨q0, q1, -, -, ql⟩ := XS1.out.hd.facts
  have N1 := Lib.hid (show w.heap.size + 1 + 1 < w1.heap.size from XS1.out.tl.tl.hd.lt)
  clear he1 hb1
  go_upto_region 4 with (fail)
  go_cut [8, 9] (fun p q wx => ∃ g8 g9, p = .pointer (some ⟨g8, 0, none⟩) ∧ q = .pointer (some ⟨g9, 0, none⟩) ∧ PwS w wx g8 g9 1 a)
  case first =>
    go_region_with (first
      | (go_at_call 84; (with_reducible refine (HOF.out w1.drew).mono ?_); intro e w2 hz2; obtain ⟨s2, A2, n2, c2, rfl, hv2, hb2⟩ := hz2.gen; have XS2 := Lib.hid (Bxs.below (XS1.out.drew) hb2); have Q2 := Lib.hid (show Qs w w2 _ (.agg #[.bool s2, .slice A2 n2 c2]) (.agg #[.bool s, .slice A n c]) 1 a from ⟨(Bxs.nil.cons XS2.out.tl.tl.hd), hv2, IntV.keep (VA1.out.drew) hb2, bel_trans (B := w.heap.size) HB1.out.drew hb2⟩); obtain ⟨r0, r1, -, -, rl⟩ := XS2.out.hd.facts; have HLE := Lib.hid ((show w1.heap.size ≤ w2.heap.size from hb2.size)); clear hz2 hv2 hb2)
      | (go_at_call 84; (with_reducible refine (HOF.out (w1.alloc (.cells #[.bool _, .slice _ _ _] 36)).drew).mono ?_); intro e w2 hz2; obtain ⟨s2, A2, n2, c2, rfl, hv2, hb2⟩ := hz2.gen; have XS2 := Lib.hid (Bxs.below ((XS1.out.alloc _).drew) hb2); have Y1 := Lib.hid (one_new hb2); obtain ⟨f0, f1, f2, f3, f4⟩ := Y1.out.facts; have Q2 := Lib.hid (show Qs w w2 _ (.agg #[.bool s2, .slice A2 n2 c2]) (.agg #[.bool s, .slice A n c]) 1 a from ⟨((Bxs.nil.cons XS2.out.tl.tl.hd).cons Y1.out), hv2, IntV.keep ((VA1.out.alloc _).drew) hb2, bel_trans (B := w.heap.size) (bel1 HB1.out _) hb2⟩); obtain ⟨r0, r1, -, -, rl⟩ := XS2.out.hd.facts; have HLE := Lib.hid (le1 hb2); clear hz2 hv2 hb2)
      | (go_at_call 84; (with_reducible refine (HOF.out ((w1.alloc (.cells #[.bool _, .slice _ _ _] 36)).alloc (.cells #[.bool _, .slice _ _ _] 36)).drew).mono ?_); intro e w2 hz2; obtain ⟨s2, A2, n2, c2, rfl, hv2, hb2⟩ := hz2.gen; have XS2 := Lib.hid (Bxs.below (((XS1.out.alloc _).alloc _).drew) hb2); have Y1 := Lib.hid (two_fst hb2); obtain ⟨f0, f1, f2, f3, f4⟩ := Y1.out.facts; have Y2 := Lib.hid (two_snd hb2); obtain ⟨g0, g1, g2, g3, g4⟩ := Y2.out.facts; have Q2 := Lib.hid (show Qs w w2 _ (.agg #[.bool s2, .slice A2 n2 c2]) (.agg #[.bool s, .slice A n c]) 1 a from ⟨(((Bxs.nil.cons XS2.out.tl.tl.hd).cons Y1.out).cons Y2.out), hv2, IntV.keep (((VA1.out.alloc _).alloc _).drew) hb2, bel_trans (B := w.heap.size) (bel2 HB1.out _ _) hb2⟩); obtain ⟨r0, r1, -, -, rl⟩ := XS2.out.hd.facts; have HLE := Lib.hid (le2 hb2); clear hz2 hv2 hb2))
    all_goals (go_wp2_with fail; go_meet)
    all_goals (refine ⟨_, _, rfl, rfl, ?_⟩)
    all_goals first
      | with_reducible exact pw_fin0 Q2.out N1.out HLE.out
      | with_reducible exact pw_fin1 Q2.out N1.out HLE.out
      | with_reducible exact pw_fin2 Q2.out N1.out HLE.out
      | with_reducible exact pw_fin3 Q2.out N1.out HLE.out
      | with_reducible exact pw_fin4 Q2.out N1.out HLE.out
      | with_reducible exact pw_fin5 Q2.out N1.out HLE.out
      | with_reducible exact pw_fin6 Q2.out N1.out HLE.out
      | with_reducible exact pw_fin7 Q2.out N1.out HLE.out
      | with_reducible exact pw_fin8 Q2.out N1.out HLE.out
      | with_reducible exact pw_fin9 Q2.out N1.out HLE.out
      | with_reducible exact pw_fin10 Q2.out N1.out HLE.out
  case rest =>
    obtain ⟨g8, g9, rfl, rfl, hst⟩ := hcut
    have HST := Lib.hid hst
    clear hst q0 q1 ql XS0 HB0 VA0 C1 XS1 HB1 VA1 N1 HOF d1 d2 d3
    go_wp2_with fail
    go_loopg [6] k (fun kk x6 wr => x6 = .int .i64 (kk : Int) ∧ kk ≤ 1000 ∧ ∃ p a', PwS w wr g8 g9 p a' ∧ ¬ BigI p ∧ ¬ BigI a' ∧ powI kk p a' = powI k 1 a)
    case atStart => exact ⟨rfl, hk, 1, a, HST.out, small_not_big (by decide), NA.out, rfl⟩
    case round =>
      obtain ⟨rfl, hkk, p, a', hst, np, na, hpow⟩ := hrel
      clear HST
      have HP := Lib.hid hpow
      have NP := Lib.hid np
      have NA' := Lib.hid na
      obtain ⟨s8, A8, n8, c8, s9, A9, n9, c9, hg8, hg9, hgn, hgr8, hgr9, hx8, hx9, hxr, hv8, hv9, hb⟩ := hst
      have HX8 := Lib.hid hx8
      have HX9 := Lib.hid hx9
      have HXR := Lib.hid hxr
      have HV8 := Lib.hid hv8
      have HV9 := Lib.hid hv9
      have HB := Lib.hid hb
      clear hpow np na hx8 hx9 hxr hv8 hv9 hb
      by_cases ho : gk % 2 = 1
      · have e1 : ((gk : Int) % 2 == 1) = true := by rw [beq_iff_eq]; omega
        have HO := Lib.hid ho
        have M1 := Lib.hid (emul_int HV8.out HV9.out NP.out NA'.out)
        obtain ⟨x80, x81, x82, x83, x84⟩ := HX8.out.facts
        obtain ⟨x90, x91, x92, x93, x94⟩ := HX9.out.facts
        clear ho
        go_wp2_with fail
        refine M1.out.mono ?_
        rintro e w2 ⟨s2, A2, n2, c2, er2, rfl, hcase2, hb2⟩
        have Y8 := Lib.hid (HX8.out.below hb2)
        have Y9 := Lib.hid (HX9.out.below hb2)
        have YR := Lib.hid (HXR.out.below hb2)
        have HB2 := Lib.hid (bel_trans (B := w.heap.size) HB.out hb2)
        have VA2 := Lib.hid (HV9.out.keep hb2)
        clear x80 x81 x82 x83 x84 x90 x91 x92 x93 x94 hb2
        obtain ⟨x80, x81, x82, x83, x84⟩ := Y8.out.facts
        obtain ⟨W3, hW3, Z8, hb3, hv3, -, ho3, -⟩ := stored_world Y8.out HB2.out (by omega) s2 A2 n2 c2
        have X93 := Lib.hid (ho3 _ _ _ _ _ (by omega) Y9.out)
        have XR3 := Lib.hid (ho3 _ _ _ _ _ (by omega) YR.out)
        have X83 := Lib.hid Z8
        have HB3 := Lib.hid hb3
        have HVK := Lib.hid hv3
        have VA3 := Lib.hid (HVK.out _ _ VA2.out)
        clear hb3 hv3 ho3 Z8
        rcases hcase2 with ⟨hbig, rfl, hv2⟩ | ⟨hnb, rfl, hv2⟩
        · have HPE := Lib.hid (HP.out.symm.trans (powI_odd_big HO.out hbig))
          obtain ⟨j0, j1, j2, j3, j4⟩ := XR3.out.facts
          clear hbig hv2
          obtain ⟨V, hV, ZR, hbV, hvV, -, -, -⟩ := stored_world XR3.out HB3.out (by omega) false none 0 0
          obtain ⟨z0, z1, z2, z3, z4⟩ := ZR.facts
          have HBV := Lib.hid hbV
          have HVV := Lib.hid hvV
          clear hbV hvV
          go_wp2
          first | rw [hV] | skip
          refine bodyPost_ret (v := .tuple #[.agg #[.bool false, .slice none 0 0], .int .i64 11]) (by simp [results, Tryz.results86, go_sem, z0, z1]) rfl ?_
          exact ⟨_, _, _, _, _, rfl, .inl ⟨HPE.out, rfl, intV_zero _⟩, HBV.out⟩
        · have NPP := Lib.hid hnb
          have V83 := Lib.hid (HVK.out _ _ hv2)
          clear hnb hv2
          by_cases h2 : gk / 2 = 0
          · have e2 : ((gk : Int) / 2 == 0) = true := by rw [beq_iff_eq]; omega
            have HPE := Lib.hid (HP.out.symm.trans (powI_odd_end HO.out h2 NPP.out))
            obtain ⟨k0, k1, k2, k3, k4⟩ := X83.out.facts
            obtain ⟨j0, j1, j2, j3, j4⟩ := XR3.out.facts
            obtain ⟨V, hV, ZR, hbV, hvV, -, -, -⟩ := stored_world XR3.out HB3.out (by omega) s2 A2 n2 c2
            obtain ⟨z0, z1, z2, z3, z4⟩ := ZR.facts
            have HBV := Lib.hid hbV
            have HVV := Lib.hid hvV
            clear hbV hvV
            go_wp2
            first | rw [hV] | skip
            refine bodyPost_ret (v := .tuple #[.agg #[.bool s2, .slice A2 n2 c2], .int .i64 0]) (by simp [results, Tryz.results86, go_sem, z0, z1]) rfl ?_
            exact ⟨_, _, _, _, _, rfl, .inr ⟨_, HPE.out, rfl, HVV.out _ _ V83.out⟩, HBV.out⟩
          · have e2 : ((gk : Int) / 2 == 0) = false := by rw [beq_eq_false_iff_ne]; omega
            have H2 := Lib.hid h2
            have M2 := Lib.hid (emul_int VA3.out VA3.out NA'.out NA'.out)
            obtain ⟨k0, k1, k2, k3, k4⟩ := X93.out.facts
            clear h2
            go_wp2_with fail
            refine M2.out.mono ?_
            rintro e w4 ⟨s4, A4, n4, c4, er4, rfl, hcase4, hb4⟩
            have Y8 := Lib.hid (X83.out.below hb4)
            have Y9 := Lib.hid (X93.out.below hb4)
            have YR := Lib.hid (XR3.out.below hb4)
            have HB4 := Lib.hid (bel_trans (B := w.heap.size) HB3.out hb4)
            have VP4 := Lib.hid (V83.out.keep hb4)
            clear k0 k1 k2 k3 k4 hb4
            obtain ⟨k0, k1, k2, k3, k4⟩ := Y9.out.facts
            obtain ⟨W5, hW5, Z9, hb5, hv5, -, ho5, -⟩ := stored_world Y9.out HB4.out (by omega) s4 A4 n4 c4
            have X85 := Lib.hid (ho5 _ _ _ _ _ (by omega) Y8.out)
            have XR5 := Lib.hid (ho5 _ _ _ _ _ (by omega) YR.out)
            have X95 := Lib.hid Z9
            have HB5 := Lib.hid hb5
            have HV5 := Lib.hid hv5
            clear hb5 hv5 ho5 Z9
            obtain ⟨j0, j1, j2, j3, j4⟩ := XR5.out.facts
            rcases hcase4 with ⟨hbig, rfl, hv4⟩ | ⟨hnb, rfl, hv4⟩
            · have HPE := Lib.hid (HP.out.symm.trans (powI_odd_sq HO.out H2.out NPP.out hbig))
              clear hbig hv4
              obtain ⟨V, hV, ZR, hbV, hvV, -, -, -⟩ := stored_world XR5.out HB5.out (by omega) false none 0 0
              obtain ⟨z0, z1, z2, z3, z4⟩ := ZR.facts
              have HBV := Lib.hid hbV
              have HVV := Lib.hid hvV
              clear hbV hvV
              go_wp2
              first | rw [hV] | skip
              refine bodyPost_ret (v := .tuple #[.agg #[.bool false, .slice none 0 0], .int .i64 11]) (by simp [results, Tryz.results86, go_sem, z0, z1]) rfl ?_
              exact ⟨_, _, _, _, _, rfl, .inl ⟨HPE.out, rfl, intV_zero _⟩, HBV.out⟩
            · have HPE := Lib.hid (HP.out.symm.trans (powI_odd_go HO.out H2.out NPP.out hnb))
              have NB := Lib.hid hnb
              have HV4 := Lib.hid hv4
              clear hnb hv4
              go_wp2_with fail
              go_roundg (gk / 2)
              case measure => have := H2.out; omega
              case rel => exact ⟨by first | rfl | (congr 1), by omega, (p * a'), a' * a', ⟨_, _, _, _, _, _, _, _, hg8, hg9, hgn, hgr8, hgr9, X85.out, X95.out, XR5.out, HV5.out _ _ VP4.out, HV5.out _ _ HV4.out, HB5.out⟩, NPP.out, NB.out, HPE.out.symm⟩
      · have e1 : ((gk : Int) % 2 == 1) = false := by rw [beq_eq_false_iff_ne]; omega
        have HO := Lib.hid ho
        clear ho
        by_cases h2 : gk / 2 = 0
        · have e2 : ((gk : Int) / 2 == 0) = true := by rw [beq_iff_eq]; omega
          have HPE := Lib.hid (HP.out.symm.trans (powI_even_end HO.out h2 NP.out))
          obtain ⟨k0, k1, k2, k3, k4⟩ := HX8.out.facts
          obtain ⟨j0, j1, j2, j3, j4⟩ := HXR.out.facts
          obtain ⟨V, hV, ZR, hbV, hvV, -, -, -⟩ := stored_world HXR.out HB.out (by omega) s8 A8 n8 c8
          obtain ⟨z0, z1, z2, z3, z4⟩ := ZR.facts
          have HBV := Lib.hid hbV
          have HVV := Lib.hid hvV
          clear hbV hvV
          go_wp2
          first | rw [hV] | skip
          refine bodyPost_ret (v := .tuple #[.agg #[.bool s8, .slice A8 n8 c8], .int .i64 0]) (by simp [results, Tryz.results86, go_sem, z0, z1]) rfl ?_
          exact ⟨_, _, _, _, _, rfl, .inr ⟨_, HPE.out, rfl, HVV.out _ _ HV8.out⟩, HBV.out⟩
        · have e2 : ((gk : Int) / 2 == 0) = false := by rw [beq_eq_false_iff_ne]; omega
          have H2 := Lib.hid h2
          have M2 := Lib.hid (emul_int HV9.out HV9.out NA'.out NA'.out)
          obtain ⟨k0, k1, k2, k3, k4⟩ := HX9.out.facts
          clear h2
          go_wp2_with fail
          refine M2.out.mono ?_
          rintro e w4 ⟨s4, A4, n4, c4, er4, rfl, hcase4, hb4⟩
          have Y8 := Lib.hid (HX8.out.below hb4)
          have Y9 := Lib.hid (HX9.out.below hb4)
          have YR := Lib.hid (HXR.out.below hb4)
          have HB4 := Lib.hid (bel_trans (B := w.heap.size) HB.out hb4)
          have VP4 := Lib.hid (HV8.out.keep hb4)
          clear k0 k1 k2 k3 k4 hb4
          obtain ⟨k0, k1, k2, k3, k4⟩ := Y9.out.facts
          obtain ⟨W5, hW5, Z9, hb5, hv5, -, ho5, -⟩ := stored_world Y9.out HB4.out (by omega) s4 A4 n4 c4
          have X85 := Lib.hid (ho5 _ _ _ _ _ (by omega) Y8.out)
          have XR5 := Lib.hid (ho5 _ _ _ _ _ (by omega) YR.out)
          have X95 := Lib.hid Z9
          have HB5 := Lib.hid hb5
          have HV5 := Lib.hid hv5
          clear hb5 hv5 ho5 Z9
          obtain ⟨j0, j1, j2, j3, j4⟩ := XR5.out.facts
          rcases hcase4 with ⟨hbig, rfl, hv4⟩ | ⟨hnb, rfl, hv4⟩
          · have HPE := Lib.hid (HP.out.symm.trans (powI_even_sq HO.out H2.out NP.out hbig))
            clear hbig hv4
            obtain ⟨V, hV, ZR, hbV, hvV, -, -, -⟩ := stored_world XR5.out HB5.out (by omega) false none 0 0
            obtain ⟨z0, z1, z2, z3, z4⟩ := ZR.facts
            have HBV := Lib.hid hbV
            have HVV := Lib.hid hvV
            clear hbV hvV
            go_wp2
            first | rw [hV] | skip
            refine bodyPost_ret (v := .tuple #[.agg #[.bool false, .slice none 0 0], .int .i64 11]) (by simp [results, Tryz.results86, go_sem, z0, z1]) rfl ?_
            exact ⟨_, _, _, _, _, rfl, .inl ⟨HPE.out, rfl, intV_zero _⟩, HBV.out⟩
          · have HPE := Lib.hid (HP.out.symm.trans (powI_even_go HO.out H2.out NP.out hnb))
            have NB := Lib.hid hnb
            have HV4 := Lib.hid hv4
            clear hnb hv4
            go_wp2_with fail
            go_roundg (gk / 2)
            case measure => have := H2.out; omega
            case rel => exact ⟨by first | rfl | (congr 1), by omega, p, a' * a', ⟨_, _, _, _, _, _, _, _, hg8, hg9, hgn, hgr8, hgr9, X85.out, X95.out, XR5.out, HV5.out _ _ VP4.out, HV5.out _ _ HV4.out, HB5.out⟩, NP.out, NB.out, HPE.out.symm⟩

end LM
end Go.Proofs.YtpnjddfnlaonoaaGreatDoor
