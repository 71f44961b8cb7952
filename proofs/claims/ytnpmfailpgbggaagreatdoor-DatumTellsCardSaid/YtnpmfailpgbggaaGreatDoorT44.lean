import Derived.Test.YtnpmfailpgbggaaGreatDoorT33
import Derived.Test.YtnpmfailpgbggaaGreatDoorT43
import Derived.Test.YtnpmfailpgbggaaGreatDoorT09
import Derived.Lib.OthersKept
import Derived.Test.YtnpmfailpgbggaaGreatDoorT37
import Derived.Laws.RangeAny
import Derived.Laws.Cover1
import Derived.Laws.Runes
set_option linter.unusedVariables false
set_option linter.unusedSimpArgs false
set_option maxRecDepth 100000
set_option maxHeartbeats 16000000
namespace Go.Proofs.YtnpmfailpgbggaaGreatDoor
open Go Go.Shelf Go.RowKit Go.Sort Go.Lib
namespace LM
end LM
namespace LM
end LM
end Go.Proofs.YtnpmfailpgbggaaGreatDoor
