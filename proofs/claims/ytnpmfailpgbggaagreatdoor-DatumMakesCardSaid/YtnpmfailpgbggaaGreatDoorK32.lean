/- Walks: the floating number of an exact one that has at most 53 digits. -/
import Derived.Test.YtnpmfailpgbggaaGreatDoorK27
import Derived.Test.YtnpmfailpgbggaaGreatDoorK07
import Derived.Test.YtnpmfailpgbggaaGreatDoorK31
namespace Go.Proofs.YtnpmfailpgbggaaGreatDoor
open Go Go.RowKit
namespace LM
set_option linter.unusedVariables false

end LM
end Go.Proofs.YtnpmfailpgbggaaGreatDoor

namespace Go.Proofs.YtnpmfailpgbggaaGreatDoor
open Go Go.RowKit
namespace LM
set_option linter.unusedVariables false

end LM
end Go.Proofs.YtnpmfailpgbggaaGreatDoor
