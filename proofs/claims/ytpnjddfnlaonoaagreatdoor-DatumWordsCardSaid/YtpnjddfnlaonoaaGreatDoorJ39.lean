/- Walks: the floating number of an exact one that has at most 53 digits. -/
import Derived.Test.YtpnjddfnlaonoaaGreatDoorJ17
import Derived.Test.YtpnjddfnlaonoaaGreatDoorJ13
import Derived.Test.YtpnjddfnlaonoaaGreatDoorJ36
namespace Go.Proofs.YtpnjddfnlaonoaaGreatDoor
open Go Go.RowKit
namespace LM
set_option linter.unusedVariables false

end LM
end Go.Proofs.YtpnjddfnlaonoaaGreatDoor

namespace Go.Proofs.YtpnjddfnlaonoaaGreatDoor
open Go Go.RowKit
namespace LM
set_option linter.unusedVariables false

end LM
end Go.Proofs.YtpnjddfnlaonoaaGreatDoor
