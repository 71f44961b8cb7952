/- From what a row lists of the package variables to what the walks of package flo ask of them. -/
import Derived.Test.YtdhjbhcfkajfdaaGreatDoorC27
import Derived.Test.YtdhjbhcfkajfdaaGreatDoorC14
import Derived.ChangeArms
import Derived.LaidMore
namespace Go.Proofs.YtdhjbhcfkajfdaaGreatDoor
open Go Go.RowKit Go.ChangeShapes
namespace LM
set_option linter.unusedVariables false

/-- what is listed under a name -/
theorem listed_of {l : List (String × DataW Unit)} {W : World} {nm : String} {d : DataW Unit} (h : laidMetH Tryz.prog l W)
    (he : ((l.filter fun x => x.2.handleName?.isNone).filter fun x => x.1 == nm) = [(nm, d)]) : laidMet Tryz.prog [(nm, d)] W := by
  have h1 := (laidMetH_iff.1 h).1.filter fun x => x.1 == nm
  rw [he] at h1
  exact h1

end LM
end Go.Proofs.YtdhjbhcfkajfdaaGreatDoor
