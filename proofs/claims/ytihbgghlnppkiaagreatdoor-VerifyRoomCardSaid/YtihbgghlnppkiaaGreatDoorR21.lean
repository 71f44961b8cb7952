import Derived.Laws.AppendOwnNone
import Derived.Test.YtihbgghlnppkiaaGreatDoorR07
import Derived.Test.YtihbgghlnppkiaaGreatDoorR04
import Derived.Test.YtihbgghlnppkiaaGreatDoorR01
import Derived.Test.YtihbgghlnppkiaaGreatDoorR14
import Derived.Test.YtihbgghlnppkiaaGreatDoorR10
import Derived.Laws.IdiomStrings
set_option linter.unusedVariables false
set_option linter.unusedSimpArgs false
set_option maxRecDepth 100000
set_option maxHeartbeats 16000000
namespace Go.Proofs.YtihbgghlnppkiaaGreatDoor
open Go.RowKit
namespace LM
end LM
end Go.Proofs.YtihbgghlnppkiaaGreatDoor
namespace Go.Proofs.YtihbgghlnppkiaaGreatDoor
open Go Go.RowKit
namespace LM
end LM
namespace LM
def dg (n : Nat) : List UInt8:=if n = 0 then [] else Lib.decDigits n
end LM
end Go.Proofs.YtihbgghlnppkiaaGreatDoor
