/- Walks of the document's answer for layer 2: Right, in all its ways. -/
import Derived.Test.YtmocnoiieiakhaaGreatDoorW07
import Derived.Laws.AppendOwnNone
import Derived.Test.YtmocnoiieiakhaaGreatDoorW04
import Derived.Test.YtmocnoiieiakhaaGreatDoorW01
import Derived.Deep.RegionHeld3
import Derived.Deep.QuietTactic
import Derived.BigQuiet
import Derived.Lib.SmallJoins
namespace Go.Proofs.YtmocnoiieiakhaaGreatDoor
open Go.RowKit
namespace LM

/-- can it be? -/
def rightB (s : Bool) (xs : List Nat) : Bool := decide (xs.length ≤ 64 ∧ trim xs = xs ∧ ¬ (s = true ∧ xs.length = 0))
theorem right_parts {s : Bool} {xs : List Nat} (h : rightB s xs = true) (hx : Lm xs) : xs.length ≤ 64 ∧ Can xs ∧ s = decide (sg s (val xs) < 0) ∧ val xs = (sg s (val xs)).natAbs ∧ ¬ BigI (sg s (val xs)) := by
  obtain ⟨h1, h2, h3⟩ := of_decide_eq_true h
  have hc : Can xs := ⟨hx, h2⟩
  refine ⟨h1, hc, ?_, (sg_abs _ _).symm, fun hb => not_big_len hc h1 ((bigI_sg _ _).1 hb)⟩
  rw [sg_neg]
  cases s with
  | false => rfl
  | true =>
    have : 0 < val xs := (can_pos hc).1 (by have : ¬ xs.length = 0 := fun h => h3 ⟨rfl, h⟩; omega)
    rw [decide_eq_true this]
    rfl

/-- what is right is a whole number, not too great -/
theorem intV_of {s : Bool} {A : Option Addr} {c : Nat} {xs : List Nat} {w : World} (hr : rightB s xs = true) (ha : Rd w A xs) (hx : Lm xs) (hca : xs.length ≤ c) (hcm : c ≤ 9223372036854775807) :
    IntV w (.agg #[.bool s, .slice A xs.length c]) (sg s (val xs)) ∧ ¬ BigI (sg s (val xs)) := by
  obtain ⟨h1, h2, h3, h4, h5⟩ := right_parts hr hx
  refine ⟨⟨A, c, xs, ?_, hca, hcm, ha, h2, h4⟩, h5⟩
  rw [← h3]
end LM
end Go.Proofs.YtmocnoiieiakhaaGreatDoor
