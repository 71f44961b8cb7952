/- Walk of the library: a floating number's digits written with a power of ten. -/
import Derived.Test.YtnpmfailpgbggaaGreatDoorK24
import Derived.Deep.CutRange
import Derived.Deep.DeepCutAuto
namespace Go.Proofs.YtnpmfailpgbggaaGreatDoor
open Go Go.Shelf Go.RowKit Go.Sort Go.Lib
namespace LM
set_option linter.unusedVariables false

end LM
end Go.Proofs.YtnpmfailpgbggaaGreatDoor
