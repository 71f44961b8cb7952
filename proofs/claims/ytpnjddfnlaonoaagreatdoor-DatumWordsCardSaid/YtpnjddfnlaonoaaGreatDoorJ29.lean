/- Walks: the document's answer Text. -/
import Derived.Test.YtpnjddfnlaonoaaGreatDoorJ26
import Derived.Test.YtpnjddfnlaonoaaGreatDoorJ22
import Derived.Test.YtpnjddfnlaonoaaGreatDoorJ16
import Derived.Laws.IdiomStrings
namespace Go.Proofs.YtpnjddfnlaonoaaGreatDoor
open Go.RowKit
namespace LM

end LM
end Go.Proofs.YtpnjddfnlaonoaaGreatDoor

namespace Go.Proofs.YtpnjddfnlaonoaaGreatDoor
open Go Go.RowKit
namespace LM

end LM
end Go.Proofs.YtpnjddfnlaonoaaGreatDoor

namespace Go.Proofs.YtpnjddfnlaonoaaGreatDoor
open Go Go.RowKit
namespace LM

end LM
end Go.Proofs.YtpnjddfnlaonoaaGreatDoor
