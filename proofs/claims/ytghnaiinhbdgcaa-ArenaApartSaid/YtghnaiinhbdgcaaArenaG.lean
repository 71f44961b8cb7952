/- What Alloc, Fresh, Mark do with an arena: their mathematics. -/
import Derived.Test.YtghnaiinhbdgcaaArenaH
import Derived.Deep.RegionWith
namespace Go.Proofs.Ytghnaiinhbdgcaa
open Go Go.RowKit
namespace LM
set_option linter.unusedVariables false

/-- an arena's runs lie in it, and NEXT is a line's place -/
structure Wf (A : Ar) (nx : Nat) : Prop where
  s0 : 0 ≤ A.F 3 ∧ A.F 3 ≤ A.F 4 ∧ A.F 4 ≤ 256 * A.nb
  g0 : 0 ≤ A.F 5 ∧ A.F 5 ≤ A.F 6 ∧ A.F 6 ≤ 256 * A.nb
  c0 : 0 ≤ A.F 7 ∧ A.F 7 ≤ A.F 8 ∧ A.F 8 ≤ 256 * A.nb
  n0 : A.F 9 = ((16 * nx : Nat) : Int) ∧ nx ≤ 16 * A.nb
  bl : A.nb ≤ 4096
/-- Alloc of few words -/
def alcS (A : Ar) (nx n : Nat) : (Int × Bool) × Ar × Nat :=
  if (n : Int) ≤ A.F 4 - A.F 3 then ((A.F 3, true), A.cut 3 n, nx)
  else match findH A.T (16 * A.nb) n (16 * A.nb) nx with
    | none => ((0, false), A, nx)
    | some (x, y) => ((((16 * x : Nat) : Int), true), ({ (A.tak 3 x y) with F := upd (A.tak 3 x y).F 9 ((16 * y : Nat) : Int) } : Ar).cut 3 n, y)
/-- Alloc of many words -/
def alcG (A : Ar) (n : Nat) : (Int × Bool) × Ar :=
  if (n : Int) ≤ A.F 6 - A.F 5 then ((A.F 5, true), A.cut 5 n)
  else match lastE A.T A.nb with
    | some k => ((((16 * (16 * k) : Nat) : Int), true), (A.tak 5 (16 * k) (16 * k + 16)).cut 5 n)
    | none => match findH A.T (16 * A.nb) n (16 * A.nb) 0 with
      | none => ((0, false), A)
      | some (x, y) => ((((16 * x : Nat) : Int), true), (A.tak 5 x y).cut 5 n)
/-- Fresh -/
def fre (A : Ar) (n : Nat) : (Int × Bool) × Ar :=
  if (n : Int) ≤ A.F 8 - A.F 7 then ((A.F 7, true), A.cut 7 n)
  else match lastE A.T A.nb with
    | some k => ((((16 * (16 * k) : Nat) : Int), true), (A.tak 7 (16 * k) (16 * k + 16)).cut 7 n)
    | none => ((0, false), A)

theorem alcS_none {A : Ar} {nx n : Nat} (hf : ¬ (n : Int) ≤ A.F 4 - A.F 3) (hR : findH A.T (16 * A.nb) n (16 * A.nb) nx = none) : alcS A nx n = ((0, false), A, nx) := by
  unfold alcS
  rw [if_neg hf, hR]
theorem alcS_some {A : Ar} {nx n x y : Nat} (hf : ¬ (n : Int) ≤ A.F 4 - A.F 3) (hR : findH A.T (16 * A.nb) n (16 * A.nb) nx = some (x, y)) :
    alcS A nx n = ((((16 * x : Nat) : Int), true), ({ (A.tak 3 x y) with F := upd (A.tak 3 x y).F 9 ((16 * y : Nat) : Int) } : Ar).cut 3 n, y) := by
  unfold alcS
  rw [if_neg hf, hR]
theorem Wf.b3 {A : Ar} {nx : Nat} (h : Wf A nx) : 0 ≤ A.F 3 ∧ A.F 3 ≤ 1048576 ∧ 0 ≤ A.F 4 ∧ A.F 4 ≤ 1048576 := by
  obtain ⟨⟨h1, h2, h3⟩, -, -, -, h5⟩ := h
  omega
theorem Wf.b5 {A : Ar} {nx : Nat} (h : Wf A nx) : 0 ≤ A.F 5 ∧ A.F 5 ≤ 1048576 ∧ 0 ≤ A.F 6 ∧ A.F 6 ≤ 1048576 := by
  obtain ⟨-, ⟨h1, h2, h3⟩, -, -, h5⟩ := h
  omega
theorem Wf.b7 {A : Ar} {nx : Nat} (h : Wf A nx) : 0 ≤ A.F 7 ∧ A.F 7 ≤ 1048576 ∧ 0 ≤ A.F 8 ∧ A.F 8 ≤ 1048576 := by
  obtain ⟨-, -, ⟨h1, h2, h3⟩, -, h5⟩ := h
  omega
/-- words come off a run in memory -/
theorem AR.cutW {w w1 w' : World} {A : Ar} {o n : Nat} {x : Int} (h : AR w A) (hx : A.F o = x) (o3 : 3 ≤ o) (m : Mv w w1 []) (e : w1.setCell ⟨A.b, o, none⟩ (.int .i64 (x + n)) = w') : AR w' (A.cut o n) ∧ Mv w w' A.blks := by
  subst e hx
  exact ⟨(h.mv m (by simp)).setF o o3 _, (m.mono (by simp)).setCell (by simp) _⟩

end LM
end Go.Proofs.Ytghnaiinhbdgcaa
