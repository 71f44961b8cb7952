/- Walks of package exact: Cmp, Same, Neg of whole numbers. -/
import Derived.Test.YtfckjapedjjhpaaGreatDoorExactC
import Derived.Test.YtfckjapedjjhpaaGreatDoorLimbL
import Derived.Test.YtfckjapedjjhpaaGreatDoorLimbM
import Derived.Handy
namespace Go.Proofs.YtfckjapedjjhpaaGreatDoor
open Go.RowKit
namespace LM

/-- the order of two numbers with signs -/
def cmpS (a : Bool) (m : Nat) (b : Bool) (n : Nat) : Int := if a then (if b then cmpN n m else -1) else (if b then 1 else cmpN m n)

theorem cmpI_sg2 (s t : Bool) (m n : Nat) (hs : s = (s && decide (0 < m))) (ht : t = (t && decide (0 < n))) : cmpI (sg s m) (sg t n) = cmpS s m t n := by
  refine cmpI_sg s t m n (fun h => ?_) (fun h => ?_)
  · subst h; simp at hs; exact hs
  · subst h; simp at ht; exact ht
theorem cmpI_zero {x y : Int} : (cmpI x y == 0) = decide (x = y) := by
  unfold cmpI
  by_cases h : x < y
  · rw [if_pos h, decide_eq_false (by omega)]; rfl
  · rw [if_neg h]
    by_cases h2 : y < x
    · rw [if_pos h2, decide_eq_false (by omega)]; rfl
    · rw [if_neg h2, decide_eq_true (by omega)]; rfl
theorem cmpI_lt {x y : Int} (h : x < y) : cmpI x y = -1 := if_pos h
theorem cmpI_gt {x y : Int} (h : y < x) : cmpI x y = 1 := by unfold cmpI; rw [if_neg (by omega), if_pos h]
theorem cmpI_eq {x y : Int} (h : x = y) : cmpI x y = 0 := by unfold cmpI; rw [if_neg (by omega), if_neg (by omega)]
theorem IntV.bx {w : World} {v : Value} {z : Int} (h : IntV w v z) : ∃ A n c, v = .agg #[.bool (decide (z < 0)), .slice A n c] := by
  obtain ⟨A, n, c, e, _⟩ := h.open
  exact ⟨A, n, c, e⟩
theorem newp2 (w : World) (s t : Bool) (A B : Option Addr) (n c m d : Nat) :
    Below w.heap.size w ((w.alloc (.cells #[.bool s, .slice A n c] 24)).alloc (.cells #[.bool t, .slice B m d] 24)) ∧
    Bx ((w.alloc (.cells #[.bool s, .slice A n c] 24)).alloc (.cells #[.bool t, .slice B m d] 24)) w.heap.size s A n c ∧
    Bx ((w.alloc (.cells #[.bool s, .slice A n c] 24)).alloc (.cells #[.bool t, .slice B m d] 24)) (w.heap.size + 1) t B m d := by
  refine ⟨((Below.refl _ w).alloc (Nat.le_refl _) _).alloc (by simp) _, (Bx.new w s A n c).alloc _, ?_⟩
  have h := Bx.new (w.alloc (.cells #[.bool s, .slice A n c] 24)) t B m d
  rw [World.size_alloc] at h
  exact h

end LM
end Go.Proofs.YtfckjapedjjhpaaGreatDoor
