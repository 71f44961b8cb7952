/- Walk of the library: a floating number's digits written with a point. -/
import Derived.Test.YtnpmfailpgbggaaGreatDoorK24
import Derived.Deep.LoopGhost
namespace Go.Proofs.YtnpmfailpgbggaaGreatDoor
open Go Go.Shelf Go.RowKit Go.Sort Go.Lib
namespace LM
set_option linter.unusedVariables false

end LM
end Go.Proofs.YtnpmfailpgbggaaGreatDoor
