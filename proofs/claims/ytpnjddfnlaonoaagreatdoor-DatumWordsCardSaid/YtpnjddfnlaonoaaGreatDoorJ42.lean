/- Walks: the document's Of once more, with what is known of the room. -/
import Derived.Test.YtpnjddfnlaonoaaGreatDoorJ28
import Derived.Test.YtpnjddfnlaonoaaGreatDoorJ25
import Derived.Test.YtpnjddfnlaonoaaGreatDoorJ26
import Derived.LoopTactic
namespace Go.Proofs.YtpnjddfnlaonoaaGreatDoor
open Go.RowKit
namespace LM
set_option linter.unusedVariables false

end LM
end Go.Proofs.YtpnjddfnlaonoaaGreatDoor
