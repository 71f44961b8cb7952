/- Walks: the document's answer Text. -/
import Derived.Laws.AppendOwnNone
import Derived.Test.YtmocnoiieiakhaaGreatDoorW07
import Derived.Test.YtmocnoiieiakhaaGreatDoorW04
import Derived.Test.YtmocnoiieiakhaaGreatDoorW01
import Derived.Test.YtmocnoiieiakhaaGreatDoorW14
import Derived.Test.YtmocnoiieiakhaaGreatDoorW10
import Derived.Laws.IdiomStrings
namespace Go.Proofs.YtmocnoiieiakhaaGreatDoor
open Go.RowKit
namespace LM

end LM
end Go.Proofs.YtmocnoiieiakhaaGreatDoor

namespace Go.Proofs.YtmocnoiieiakhaaGreatDoor
open Go Go.RowKit
namespace LM

end LM
end Go.Proofs.YtmocnoiieiakhaaGreatDoor

namespace Go.Proofs.YtmocnoiieiakhaaGreatDoor
open Go Go.RowKit
namespace LM

/-- the digits of a number; none of nought -/
def dg (n : Nat) : List UInt8 := if n = 0 then [] else Lib.decDigits n
end LM
end Go.Proofs.YtmocnoiieiakhaaGreatDoor
