/- Walk of the library: ftoa64 with a point. -/
import Derived.Test.YtnpmfailpgbggaaGreatDoorK37
namespace Go.Proofs.YtnpmfailpgbggaaGreatDoor
open Go Go.Shelf Go.RowKit Go.Sort Go.Lib
namespace LM
set_option linter.unusedVariables false

end LM
end Go.Proofs.YtnpmfailpgbggaaGreatDoor
