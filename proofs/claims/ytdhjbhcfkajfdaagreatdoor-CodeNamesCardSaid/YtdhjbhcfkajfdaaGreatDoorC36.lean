/- Walks: the texts of one and a half and of a half. -/
import Derived.Test.YtdhjbhcfkajfdaaGreatDoorC33
import Derived.Test.YtdhjbhcfkajfdaaGreatDoorC35
namespace Go.Proofs.YtdhjbhcfkajfdaaGreatDoor
open Go Go.Shelf Go.RowKit Go.Sort Go.Lib
namespace LM
set_option linter.unusedVariables false

/-- what the library's variables hold that a number's text asks for -/
structure TV (w : World) : Prop where
  pow : PTab w
  tab : Lib.TabIs Tryz.prog w "internal/strconv.uint64pow10" .u64 Lib.pow10Tab
  size : 9 < w.heap.size
end LM
end Go.Proofs.YtdhjbhcfkajfdaaGreatDoor
