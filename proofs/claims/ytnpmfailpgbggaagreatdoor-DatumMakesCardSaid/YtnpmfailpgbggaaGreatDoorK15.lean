/- Walks of package exact: Add, Mul, Quo. -/
import Derived.Test.YtnpmfailpgbggaaGreatDoorK08
import Derived.Test.YtnpmfailpgbggaaGreatDoorK14
namespace Go.Proofs.YtnpmfailpgbggaaGreatDoor
open Go.RowKit
namespace LM

/-- a call that answers a whole number, or that it is too great -/
def RetE (w : World) (z : Int) (e : Ending) (w' : World) : Prop := ∃ s A n c er, e = .returned (.tuple #[.agg #[.bool s, .slice A n c], .int .i64 er]) ∧
  ((BigI z ∧ er = 11 ∧ IntV w' (.agg #[.bool s, .slice A n c]) 0) ∨ (¬ BigI z ∧ er = 0 ∧ IntV w' (.agg #[.bool s, .slice A n c]) z)) ∧ Below w.heap.size w w'

/-- what a division of whole numbers answers -/
def RetQ (w : World) (x y : Int) (e : Ending) (w' : World) : Prop := ∃ s A n c s' A' n' c' er, e = .returned (.tuple #[.agg #[.bool s, .slice A n c], .agg #[.bool s', .slice A' n' c'], .int .i64 er]) ∧
  ((y = 0 ∧ er = 12 ∧ IntV w' (.agg #[.bool s, .slice A n c]) 0 ∧ IntV w' (.agg #[.bool s', .slice A' n' c']) 0) ∨ (y ≠ 0 ∧ er = 0 ∧ IntV w' (.agg #[.bool s, .slice A n c]) (quoI x y) ∧ IntV w' (.agg #[.bool s', .slice A' n' c']) (remI x y))) ∧ Below w.heap.size w w'

end LM
end Go.Proofs.YtnpmfailpgbggaaGreatDoor
