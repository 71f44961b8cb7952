import Derived.Test.YtihbgghlnppkiaaGreatDoorR07
import Derived.Laws.AppendOwnNone
import Derived.Test.YtihbgghlnppkiaaGreatDoorR04
import Derived.Test.YtihbgghlnppkiaaGreatDoorR01
import Derived.Deep.RegionHeld3
import Derived.Deep.QuietTactic
import Derived.BigQuiet
import Derived.Lib.SmallJoins
set_option linter.unusedVariables false
set_option linter.unusedSimpArgs false
set_option maxRecDepth 100000
set_option maxHeartbeats 16000000
namespace Go.Proofs.YtihbgghlnppkiaaGreatDoor
open Go.RowKit
namespace LM
def rightB (s : Bool) (xs : List Nat) : Bool:=decide (xs.length ≤ 64∧trim xs = xs∧¬ (s = true∧xs.length = 0))
theorem right_parts {s : Bool} {xs : List Nat} (h : rightB s xs = true) (hx : Lm xs) : xs.length ≤ 64∧Can xs∧s = decide (sg s (val xs) < 0)∧val xs = (sg s (val xs)).natAbs∧¬ BigI (sg s (val xs)):=by
  obtain ⟨h1,h2,h3⟩:=of_decide_eq_true h
  have hc : Can xs:=⟨hx,h2⟩
  refine ⟨h1,hc,?_,(sg_abs _ _).symm,fun hb=>not_big_len hc h1 ((bigI_sg _ _).1 hb)⟩
  rw [sg_neg]
  cases s with
  | false=>rfl
  | true =>
    have : 0 < val xs:=(can_pos hc).1 (by have : ¬ xs.length = 0:=fun h=>h3 ⟨rfl,h⟩; omega)
    rw [decide_eq_true this]
    rfl
theorem intV_of {s : Bool} {A : Option Addr} {c : Nat} {xs : List Nat} {w : World} (hr : rightB s xs = true) (ha : Rd w A xs) (hx : Lm xs) (hca : xs.length ≤ c) (hcm : c ≤ 9223372036854775807) :
    IntV w (.agg #[.bool s,.slice A xs.length c]) (sg s (val xs))∧¬ BigI (sg s (val xs)):=by
  obtain ⟨h1,h2,h3,h4,h5⟩:=right_parts hr hx
  refine ⟨⟨A,c,xs,?_,hca,hcm,ha,h2,h4⟩,h5⟩
  rw [← h3]
end LM
end Go.Proofs.YtihbgghlnppkiaaGreatDoor
