import Derived.Test.YtnpmfailpgbggaaGreatDoorT27
import Derived.Test.YtnpmfailpgbggaaGreatDoorT07
import Derived.Test.YtnpmfailpgbggaaGreatDoorT31
set_option linter.unusedVariables false
set_option linter.unusedSimpArgs false
set_option maxRecDepth 100000
set_option maxHeartbeats 16000000
namespace Go.Proofs.YtnpmfailpgbggaaGreatDoor
open Go Go.RowKit
namespace LM
end LM
namespace LM
end LM
end Go.Proofs.YtnpmfailpgbggaaGreatDoor
