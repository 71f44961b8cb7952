/- Walks of the document's answer for layer 2: Right, in all its ways. -/
import Derived.Test.YtpnjddfnlaonoaaGreatDoorK15
import Derived.Test.YtpnjddfnlaonoaaGreatDoorK29
import Derived.Deep.RegionHeld3
import Derived.Deep.QuietTactic
import Derived.BigQuiet
import Derived.Lib.SmallJoins
namespace Go.Proofs.YtpnjddfnlaonoaaGreatDoor
open Go.RowKit
namespace LM

/-- can it be? -/
def rightB (s : Bool) (xs : List Nat) : Bool := decide (xs.length ≤ 64 ∧ trim xs = xs ∧ ¬ (s = true ∧ xs.length = 0))
theorem right_parts {s : Bool} {xs : List Nat} (h : rightB s xs = true) (hx : Lm xs) : xs.length ≤ 64 ∧ Can xs ∧ s = decide (sg s (val xs) < 0) ∧ val xs = (sg s (val xs)).natAbs ∧ ¬ BigI (sg s (val xs)) := by
  obtain ⟨h1, h2, h3⟩ := of_decide_eq_true h
  have hc : Can xs := ⟨hx, h2⟩
  refine ⟨h1, hc, ?_, (sg_abs _ _).symm, fun hb => not_big_len hc h1 ((bigI_sg _ _).1 hb)⟩
  rw [sg_neg]
  cases s with
  | false => rfl
  | true =>
    have : 0 < val xs := (can_pos hc).1 (by have : ¬ xs.length = 0 := fun h => h3 ⟨rfl, h⟩; omega)
    rw [decide_eq_true this]
    rfl

theorem IntV.drew {w : World} {v : Value} {z : Int} (h : IntV w v z) : IntV w.drew v z := h.keep (Below.refl _ _).drew
end LM
end Go.Proofs.YtpnjddfnlaonoaaGreatDoor
