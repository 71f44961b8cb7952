/- Walks: the exact number of a floating one that is whole. -/
import Derived.Test.YtpnjddfnlaonoaaGreatDoorJ17
import Derived.Test.YtpnjddfnlaonoaaGreatDoorJ04
import Derived.Test.YtpnjddfnlaonoaaGreatDoorJ28
import Derived.Test.YtpnjddfnlaonoaaGreatDoorJ23
import Derived.Test.YtpnjddfnlaonoaaGreatDoorJ25
namespace Go.Proofs.YtpnjddfnlaonoaaGreatDoor
open Go Go.RowKit
namespace LM
set_option linter.unusedVariables false

end LM
end Go.Proofs.YtpnjddfnlaonoaaGreatDoor
