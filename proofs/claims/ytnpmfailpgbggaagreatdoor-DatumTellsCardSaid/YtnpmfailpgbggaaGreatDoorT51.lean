import Derived.Test.YtnpmfailpgbggaaGreatDoorT49
import Derived.Test.YtnpmfailpgbggaaGreatDoorT44
set_option linter.unusedVariables false
set_option linter.unusedSimpArgs false
set_option maxRecDepth 100000
set_option maxHeartbeats 16000000
namespace Go.Proofs.YtnpmfailpgbggaaGreatDoor
open Go Go.Shelf Go.RowKit Go.Sort Go.Lib
namespace LM
attribute [local go_sem] run_store_flt
end LM
end Go.Proofs.YtnpmfailpgbggaaGreatDoor
