/- The walk of exact's Pow. -/
import Derived.Test.YtpoojlnndgoeoaaGreatDoorLimbU
import Derived.Test.YtpoojlnndgoeoaaGreatDoorExactU
import Derived.LoopTactic
import Derived.Deep.LoopGhost
import Derived.Deep.DeepCutAuto
namespace Go.Proofs.YtpoojlnndgoeoaaGreatDoor
open Go.RowKit
namespace LM
set_option linter.unusedVariables false

def PowE (w : World) (o : Option Int) (e : Ending) (w' : World) : Prop := ∃ s A n c er, e = .returned (.tuple #[.agg #[.bool s, .slice A n c], .int .i64 er]) ∧
  ((o = none ∧ er = 11 ∧ IntV w' (.agg #[.bool s, .slice A n c]) 0) ∨ (∃ z, o = some z ∧ er = 0 ∧ IntV w' (.agg #[.bool s, .slice A n c]) z)) ∧ Below w.heap.size w w'
theorem SmallE.inn' {x : Int} {e : Ending} (h : SmallE x e) (h1 : -9223372036854775808 ≤ x) (h2 : x ≤ 9223372036854775807) : e = .returned (.tuple #[.int .i64 x, .bool true]) := by
  rcases h with ⟨_, _, h3⟩ | ⟨h3, _⟩
  · exact h3
  · exact absurd ⟨h1, h2⟩ h3
/-- where Pow stands ahead of its rounds -/
def PwS (w wx : World) (g8 g9 : Nat) (p a : Int) : Prop := ∃ s8 A8 n8 c8 s9 A9 n9 c9, w.heap.size ≤ g8 ∧ w.heap.size ≤ g9 ∧ g8 ≠ g9 ∧ g8 ≠ w.heap.size + 1 + 1 ∧ g9 ≠ w.heap.size + 1 + 1 ∧
  Bx wx g8 s8 A8 n8 c8 ∧ Bx wx g9 s9 A9 n9 c9 ∧ Bx wx (w.heap.size + 1 + 1) false none 0 0 ∧ IntV wx (.agg #[.bool s8, .slice A8 n8 c8]) p ∧ IntV wx (.agg #[.bool s9, .slice A9 n9 c9]) a ∧ Below w.heap.size w wx

theorem le1 {w w2 : World} {o : Obj} (hb : Below (w.alloc o).drew.heap.size (w.alloc o).drew w2) : w.heap.size + 1 ≤ w2.heap.size := by
  have h : (w.alloc o).heap.size ≤ w2.heap.size := hb.size
  rw [World.size_alloc] at h
  exact h
theorem le2 {w w2 : World} {o o' : Obj} (hb : Below ((w.alloc o).alloc o').drew.heap.size ((w.alloc o).alloc o').drew w2) : w.heap.size + 1 + 1 ≤ w2.heap.size := by
  have h : ((w.alloc o).alloc o').heap.size ≤ w2.heap.size := hb.size
  rw [World.size_alloc, World.size_alloc] at h
  exact h
/-- blocks, and two whole numbers that abide -/
def Qs (w W : World) (L : List (Nat × Bool × Option Addr × Nat × Nat)) (v1 va : Value) (p a : Int) : Prop := Bxs W L ∧ IntV W v1 p ∧ IntV W va a ∧ Below w.heap.size w W
section
variable {w W : World} {L : List (Nat × Bool × Option Addr × Nat × Nat)} {v1 va : Value} {p a : Int}
theorem Qs.new (h : Qs w W L v1 va p a) (b : Bool) (A : Option Addr) (n c g : Nat) (hg : g = W.heap.size) : Qs w (W.alloc (.cells #[.bool b, .slice A n c] 41)) ((g, b, A, n, c) :: L) v1 va p a := by
  subst hg
  exact ⟨h.1.new b A n c, h.2.1.alloc _, h.2.2.1.alloc _, h.2.2.2.alloc h.2.2.2.size _⟩
theorem Bxs.setr {g : Nat} (h : Bxs W L) (hL : ∀ q ∈ L, q.1 ≠ g) (u u' : Value) : Bxs ((W.setCell ⟨g, 0, none⟩ u).setCell ⟨g, 1, none⟩ u') L := fun q hq => ((h q hq).set (p := ⟨g, 0, none⟩) u (hL q hq)).set (p := ⟨g, 1, none⟩) u' (hL q hq)
theorem Qs.st0 {g : Nat} {b : Bool} {A : Option Addr} {n c : Nat} (h : Qs w W ((g, b, A, n, c) :: L) v1 va p a) (hL : ∀ q ∈ L, q.1 ≠ g) (hg : w.heap.size ≤ g) (b' : Bool) (A' : Option Addr) (n' c' : Nat) :
    Qs w ((W.setCell ⟨g, 0, none⟩ (.bool b')).setCell ⟨g, 1, none⟩ (.slice A' n' c')) ((g, b', A', n', c') :: L) v1 va p a :=
  ⟨(h.1.tl.setr hL _ _).cons h.1.hd.stored, h.2.1.stored h.1.hd _ _, h.2.2.1.stored h.1.hd _ _, below_stored h.2.2.2 hg _ _⟩
theorem Qs.st1 {q0 : Nat × Bool × Option Addr × Nat × Nat} {g : Nat} {b : Bool} {A : Option Addr} {n c : Nat} (h : Qs w W (q0 :: (g, b, A, n, c) :: L) v1 va p a) (h0 : q0.1 ≠ g) (hL : ∀ q ∈ L, q.1 ≠ g) (hg : w.heap.size ≤ g) (b' : Bool) (A' : Option Addr) (n' c' : Nat) :
    Qs w ((W.setCell ⟨g, 0, none⟩ (.bool b')).setCell ⟨g, 1, none⟩ (.slice A' n' c')) (q0 :: (g, b', A', n', c') :: L) v1 va p a :=
  ⟨Bxs.cons (((h.1.hd).set (p := ⟨g, 0, none⟩) _ h0).set (p := ⟨g, 1, none⟩) _ h0) ((h.1.tl.tl.setr hL _ _).cons h.1.tl.hd.stored), h.2.1.stored h.1.tl.hd _ _, h.2.2.1.stored h.1.tl.hd _ _, below_stored h.2.2.2 hg _ _⟩
theorem one_ne {r g : Nat} {b : Bool} {A : Option Addr} {n c : Nat} (h : r ≠ g) : ∀ q ∈ [((r, b, A, n, c) : Nat × Bool × Option Addr × Nat × Nat)], q.1 ≠ g := fun q hq => by
  rw [List.mem_singleton] at hq
  subst hq
  exact h
theorem two_ne {r k g : Nat} {b b' : Bool} {A A' : Option Addr} {n c n' c' : Nat} (h : r ≠ g) (h' : k ≠ g) : ∀ q ∈ [((k, b', A', n', c') : Nat × Bool × Option Addr × Nat × Nat), (r, b, A, n, c)], q.1 ≠ g := fun q hq => by
  rcases List.mem_cons.1 hq with rfl | hq
  · exact h'
  · exact one_ne h q hq
theorem Qs.o89 {g8 g9 : Nat} {s8 s9 : Bool} {A8 A9 : Option Addr} {n8 c8 n9 c9 : Nat} (h : Qs w W [(g9, s9, A9, n9, c9), (g8, s8, A8, n8, c8), (w.heap.size + 1 + 1, false, none, 0, 0)] (.agg #[.bool s8, .slice A8 n8 c8]) (.agg #[.bool s9, .slice A9 n9 c9]) p a)
    (h8 : w.heap.size + 1 + 1 < g8) (h9 : w.heap.size + 1 + 1 < g9) (hn : g8 ≠ g9) : PwS w W g8 g9 p a :=
  ⟨_, _, _, _, _, _, _, _, by omega, by omega, hn, by omega, by omega, h.1.tl.hd, h.1.hd, h.1.tl.tl.hd, h.2.1, h.2.2.1, h.2.2.2⟩
theorem Qs.o98 {g8 g9 : Nat} {s8 s9 : Bool} {A8 A9 : Option Addr} {n8 c8 n9 c9 : Nat} (h : Qs w W [(g8, s8, A8, n8, c8), (g9, s9, A9, n9, c9), (w.heap.size + 1 + 1, false, none, 0, 0)] (.agg #[.bool s8, .slice A8 n8 c8]) (.agg #[.bool s9, .slice A9 n9 c9]) p a)
    (h8 : w.heap.size + 1 + 1 < g8) (h9 : w.heap.size + 1 + 1 < g9) (hn : g8 ≠ g9) : PwS w W g8 g9 p a :=
  ⟨_, _, _, _, _, _, _, _, by omega, by omega, hn, by omega, by omega, h.1.hd, h.1.tl.hd, h.1.tl.tl.hd, h.2.1, h.2.2.1, h.2.2.2⟩
end
theorem bel1 {B : Nat} {w W : World} (h : Below B w W) (o : Obj) (hB : B ≤ w.heap.size := by exact Nat.le_refl _) : Below B w (W.alloc o).drew := (h.alloc (Nat.le_trans hB h.size) o).drew
theorem bel2 {B : Nat} {w W : World} (h : Below B w W) (o o' : Obj) (hB : B ≤ w.heap.size := by exact Nat.le_refl _) : Below B w ((W.alloc o).alloc o').drew := ((h.alloc (Nat.le_trans hB h.size) o).alloc (Nat.le_trans hB (by have := h.size; simp; omega)) o').drew
theorem bel_trans {B : Nat} {w W w2 : World} (h : Below B w W) (hb : Below W.heap.size W w2) (hB : B ≤ w.heap.size := by exact Nat.le_refl _) : Below B w w2 := h.trans (hb.mono (Nat.le_trans hB h.size))
theorem one_new {w w2 : World} {b : Bool} {A : Option Addr} {n c : Nat} (hb : Below (w.alloc (.cells #[.bool b, .slice A n c] 41)).drew.heap.size (w.alloc (.cells #[.bool b, .slice A n c] 41)).drew w2) : Bx w2 w.heap.size b A n c := (Bx.new w b A n c).drew.below hb
theorem two_fst {w w2 : World} {o : Obj} {b : Bool} {A : Option Addr} {n c : Nat} (hb : Below ((w.alloc (.cells #[.bool b, .slice A n c] 41)).alloc o).drew.heap.size ((w.alloc (.cells #[.bool b, .slice A n c] 41)).alloc o).drew w2) : Bx w2 w.heap.size b A n c := ((Bx.new w b A n c).alloc o).drew.below hb
theorem two_snd {w w2 : World} {o : Obj} {b : Bool} {A : Option Addr} {n c : Nat} (hb : Below ((w.alloc o).alloc (.cells #[.bool b, .slice A n c] 41)).drew.heap.size ((w.alloc o).alloc (.cells #[.bool b, .slice A n c] 41)).drew w2) : Bx w2 (w.heap.size + 1) b A n c := by
  have h := (Bx.new (w.alloc o) b A n c).drew.below hb
  rw [World.size_alloc] at h
  exact h

section
variable {w w2 : World} {K : Nat} {s s2 b1 b2 : Bool} {A A2 A1 B2 : Option Addr} {n c n2 c2 n1 c1 m2 d2 : Nat} {p a : Int}
theorem pw_fin0 (q : Qs w w2 [(w.heap.size + 1 + 1, false, none, 0, 0)] (.agg #[.bool s2, .slice A2 n2 c2]) (.agg #[.bool s, .slice A n c]) p a) (hN : w.heap.size + 1 + 1 < K) (hl : K ≤ w2.heap.size) :
    PwS w ((w2.alloc (.cells #[.bool s2, .slice A2 n2 c2] 41)).alloc (.cells #[.bool s, .slice A n c] 41)) w2.heap.size (w2.heap.size + 1) p a :=
  ((q.new _ _ _ _ _ (by simp)).new _ _ _ _ _ (by simp)).o89 (by omega) (by omega) (by omega)
theorem pw_fin1 (q : Qs w w2 [(w.heap.size + 1 + 1, false, none, 0, 0)] (.agg #[.bool s2, .slice A2 n2 c2]) (.agg #[.bool s, .slice A n c]) p a) (hN : w.heap.size + 1 + 1 < K) (hl : K ≤ w2.heap.size) :
    PwS w ((w2.alloc (.cells #[.bool s, .slice A n c] 41)).alloc (.cells #[.bool s2, .slice A2 n2 c2] 41)) (w2.heap.size + 1) w2.heap.size p a :=
  ((q.new _ _ _ _ _ (by simp)).new _ _ _ _ _ (by simp)).o98 (by omega) (by omega) (by omega)
theorem pw_fin2 (q : Qs w w2 [(K, b1, A1, n1, c1), (w.heap.size + 1 + 1, false, none, 0, 0)] (.agg #[.bool s2, .slice A2 n2 c2]) (.agg #[.bool s, .slice A n c]) p a) (hN : w.heap.size + 1 + 1 < K) (hl : K + 1 ≤ w2.heap.size) :
    PwS w (((w2.setCell ⟨K, 0, none⟩ (.bool s2)).setCell ⟨K, 1, none⟩ (.slice A2 n2 c2)).alloc (.cells #[.bool s, .slice A n c] 41)) K w2.heap.size p a :=
  ((q.st0 (one_ne (by omega)) (by omega) _ _ _ _).new _ _ _ _ _ (by simp)).o89 (by omega) (by omega) (by omega)
theorem pw_fin3 (q : Qs w w2 [(K, b1, A1, n1, c1), (w.heap.size + 1 + 1, false, none, 0, 0)] (.agg #[.bool s2, .slice A2 n2 c2]) (.agg #[.bool s, .slice A n c]) p a) (hN : w.heap.size + 1 + 1 < K) (hl : K + 1 ≤ w2.heap.size) :
    PwS w (((w2.setCell ⟨K, 0, none⟩ (.bool s)).setCell ⟨K, 1, none⟩ (.slice A n c)).alloc (.cells #[.bool s2, .slice A2 n2 c2] 41)) w2.heap.size K p a :=
  ((q.st0 (one_ne (by omega)) (by omega) _ _ _ _).new _ _ _ _ _ (by simp)).o98 (by omega) (by omega) (by omega)
theorem pw_fin4 (q : Qs w w2 [(K, s, A, n, c), (w.heap.size + 1 + 1, false, none, 0, 0)] (.agg #[.bool s2, .slice A2 n2 c2]) (.agg #[.bool s, .slice A n c]) p a) (hN : w.heap.size + 1 + 1 < K) (hl : K + 1 ≤ w2.heap.size) :
    PwS w (w2.alloc (.cells #[.bool s2, .slice A2 n2 c2] 41)) w2.heap.size K p a :=
  (q.new _ _ _ _ _ (by simp)).o98 (by omega) (by omega) (by omega)
theorem pw_fin5 (q : Qs w w2 [(K + 1, b2, B2, m2, d2), (K, b1, A1, n1, c1), (w.heap.size + 1 + 1, false, none, 0, 0)] (.agg #[.bool s2, .slice A2 n2 c2]) (.agg #[.bool s, .slice A n c]) p a) (hN : w.heap.size + 1 + 1 < K) (hl : K + 1 + 1 ≤ w2.heap.size) :
    PwS w ((((w2.setCell ⟨K, 0, none⟩ (.bool s2)).setCell ⟨K, 1, none⟩ (.slice A2 n2 c2)).setCell ⟨(K + 1), 0, none⟩ (.bool s)).setCell ⟨(K + 1), 1, none⟩ (.slice A n c)) K (K + 1) p a :=
  ((q.st1 (by simp) (one_ne (by omega)) (by omega) _ _ _ _).st0 (two_ne (by omega) (by omega)) (by omega) _ _ _ _).o89 (by omega) (by omega) (by omega)
theorem pw_fin6 (q : Qs w w2 [(K + 1, b2, B2, m2, d2), (K, b1, A1, n1, c1), (w.heap.size + 1 + 1, false, none, 0, 0)] (.agg #[.bool s2, .slice A2 n2 c2]) (.agg #[.bool s, .slice A n c]) p a) (hN : w.heap.size + 1 + 1 < K) (hl : K + 1 + 1 ≤ w2.heap.size) :
    PwS w ((((w2.setCell ⟨(K + 1), 0, none⟩ (.bool s)).setCell ⟨(K + 1), 1, none⟩ (.slice A n c)).setCell ⟨K, 0, none⟩ (.bool s2)).setCell ⟨K, 1, none⟩ (.slice A2 n2 c2)) K (K + 1) p a :=
  ((q.st0 (two_ne (by omega) (by omega)) (by omega) _ _ _ _).st1 (by simp) (one_ne (by omega)) (by omega) _ _ _ _).o89 (by omega) (by omega) (by omega)
theorem pw_fin7 (q : Qs w w2 [(K + 1, s, A, n, c), (K, b1, A1, n1, c1), (w.heap.size + 1 + 1, false, none, 0, 0)] (.agg #[.bool s2, .slice A2 n2 c2]) (.agg #[.bool s, .slice A n c]) p a) (hN : w.heap.size + 1 + 1 < K) (hl : K + 1 + 1 ≤ w2.heap.size) :
    PwS w ((w2.setCell ⟨K, 0, none⟩ (.bool s2)).setCell ⟨K, 1, none⟩ (.slice A2 n2 c2)) K (K + 1) p a :=
  (q.st1 (by simp) (one_ne (by omega)) (by omega) _ _ _ _).o89 (by omega) (by omega) (by omega)
theorem pw_fin8 (q : Qs w w2 [(K + 1, b2, B2, m2, d2), (K, b1, A1, n1, c1), (w.heap.size + 1 + 1, false, none, 0, 0)] (.agg #[.bool s2, .slice A2 n2 c2]) (.agg #[.bool s, .slice A n c]) p a) (hN : w.heap.size + 1 + 1 < K) (hl : K + 1 + 1 ≤ w2.heap.size) :
    PwS w ((((w2.setCell ⟨(K + 1), 0, none⟩ (.bool s2)).setCell ⟨(K + 1), 1, none⟩ (.slice A2 n2 c2)).setCell ⟨K, 0, none⟩ (.bool s)).setCell ⟨K, 1, none⟩ (.slice A n c)) (K + 1) K p a :=
  ((q.st0 (two_ne (by omega) (by omega)) (by omega) _ _ _ _).st1 (by simp) (one_ne (by omega)) (by omega) _ _ _ _).o98 (by omega) (by omega) (by omega)
theorem pw_fin9 (q : Qs w w2 [(K + 1, b2, B2, m2, d2), (K, b1, A1, n1, c1), (w.heap.size + 1 + 1, false, none, 0, 0)] (.agg #[.bool s2, .slice A2 n2 c2]) (.agg #[.bool s, .slice A n c]) p a) (hN : w.heap.size + 1 + 1 < K) (hl : K + 1 + 1 ≤ w2.heap.size) :
    PwS w ((((w2.setCell ⟨K, 0, none⟩ (.bool s)).setCell ⟨K, 1, none⟩ (.slice A n c)).setCell ⟨(K + 1), 0, none⟩ (.bool s2)).setCell ⟨(K + 1), 1, none⟩ (.slice A2 n2 c2)) (K + 1) K p a :=
  ((q.st1 (by simp) (one_ne (by omega)) (by omega) _ _ _ _).st0 (two_ne (by omega) (by omega)) (by omega) _ _ _ _).o98 (by omega) (by omega) (by omega)
theorem pw_fin10 (q : Qs w w2 [(K + 1, b2, B2, m2, d2), (K, s, A, n, c), (w.heap.size + 1 + 1, false, none, 0, 0)] (.agg #[.bool s2, .slice A2 n2 c2]) (.agg #[.bool s, .slice A n c]) p a) (hN : w.heap.size + 1 + 1 < K) (hl : K + 1 + 1 ≤ w2.heap.size) :
    PwS w ((w2.setCell ⟨(K + 1), 0, none⟩ (.bool s2)).setCell ⟨(K + 1), 1, none⟩ (.slice A2 n2 c2)) (K + 1) K p a :=
  (q.st0 (two_ne (by omega) (by omega)) (by omega) _ _ _ _).o98 (by omega) (by omega) (by omega)
end


end LM
end Go.Proofs.YtpoojlnndgoeoaaGreatDoor
