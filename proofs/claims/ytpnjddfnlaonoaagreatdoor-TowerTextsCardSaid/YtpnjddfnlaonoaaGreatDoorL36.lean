/- Walks of package tower: Parse of any text of ASCII bytes. -/
import Derived.Test.YtpnjddfnlaonoaaGreatDoorL20
import Derived.Test.YtpnjddfnlaonoaaGreatDoorL17
import Derived.Test.YtpnjddfnlaonoaaGreatDoorL35
namespace Go.Proofs.YtpnjddfnlaonoaaGreatDoor
open Go Go.Shelf Go.RowKit Go.Sort Go.Lib
namespace LM
set_option linter.unusedVariables false
attribute [local go_sem] run_store_flt

/-- what a text's reading as a number comes to, ff: what the library reads -/
def TOut (l : List UInt8) (ff : Nat) (w : World) (fl : Bool) (f : Nat) (s : Bool) (A : Option Addr) (n c : Nat) (er : Int) : Prop :=
  (OkText (signOf l).2 ∧ fl = false ∧ f = 0 ∧ ∃ z, POut l z er ∧ IntV w (.agg #[.bool s, .slice A n c]) z) ∨
  (¬ OkText (signOf l).2 ∧ (parV l ff).2 ≠ 0 ∧ fl = false ∧ f = 0 ∧ s = false ∧ A = none ∧ n = 0 ∧ c = 0 ∧ er = 13) ∨
  (¬ OkText (signOf l).2 ∧ (parV l ff).2 = 0 ∧ fl = true ∧ f = (parV l ff).1 ∧ s = false ∧ A = none ∧ n = 0 ∧ c = 0 ∧ er = 0)
def RetT (w : World) (l : List UInt8) (ff : Nat) (e : Ending) (w' : World) : Prop :=
  ∃ fl f s A n c er, e = .returned (.tuple #[.agg #[.bool fl, .float .f64 f, .bool s, .slice A n c], .int .i64 er]) ∧ TOut l ff w' fl f s A n c er ∧ Below w.heap.size w w'
theorem parV_err (l : List UInt8) (ff : Nat) : (parV l ff).2 = 0 ∨ parV l ff = (0, 31) := by
  unfold parV
  split
  · exact .inl rfl
  · split
    · exact .inl rfl
    · split
      · exact .inl rfl
      · split
        · exact .inr rfl
        · exact .inl rfl

end LM
end Go.Proofs.YtpnjddfnlaonoaaGreatDoor
