/- Walks: the document's answer Parse. -/
import Derived.Test.YtpnjddfnlaonoaaGreatDoorK29
import Derived.Test.YtpnjddfnlaonoaaGreatDoorK18
import Derived.LoopTactic
import Derived.Deep.DrawnRows
namespace Go.Proofs.YtpnjddfnlaonoaaGreatDoor
open Go Go.RowKit
namespace LM
attribute [local go_sem ↓] Go.wp_at_zero Go.wp_at_succ

end LM
end Go.Proofs.YtpnjddfnlaonoaaGreatDoor
