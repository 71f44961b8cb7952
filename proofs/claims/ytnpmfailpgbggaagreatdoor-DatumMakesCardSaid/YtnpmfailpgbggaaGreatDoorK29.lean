/- Walks: the exact number of a floating one that is whole. -/
import Derived.Test.YtnpmfailpgbggaaGreatDoorK27
import Derived.Test.YtnpmfailpgbggaaGreatDoorK25
import Derived.Test.YtnpmfailpgbggaaGreatDoorK20
import Derived.Test.YtnpmfailpgbggaaGreatDoorK15
import Derived.Test.YtnpmfailpgbggaaGreatDoorK17
namespace Go.Proofs.YtnpmfailpgbggaaGreatDoor
open Go Go.RowKit
namespace LM
set_option linter.unusedVariables false

end LM
end Go.Proofs.YtnpmfailpgbggaaGreatDoor
