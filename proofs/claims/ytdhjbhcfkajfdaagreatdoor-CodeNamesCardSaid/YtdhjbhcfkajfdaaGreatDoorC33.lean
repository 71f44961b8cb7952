/- Walks of package flo: Parse of any text of ASCII bytes. -/
import Derived.Test.YtdhjbhcfkajfdaaGreatDoorC27
import Derived.Lib.AtoiErrMem
import Derived.Lib.AppendIntMem
import Derived.Lib.ParseIntBCases
import Derived.Test.YtdhjbhcfkajfdaaGreatDoorC11
import Derived.Test.YtdhjbhcfkajfdaaGreatDoorC10
import Derived.Test.YtdhjbhcfkajfdaaGreatDoorC24
import Derived.Test.YtdhjbhcfkajfdaaGreatDoorProg
import Derived.Test.YtdhjbhcfkajfdaaGreatDoorC02
import Derived.Test.YtdhjbhcfkajfdaaGreatDoorC09
import Derived.Handy
import Derived.Test.YtdhjbhcfkajfdaaGreatDoorC23
import Derived.Laws.FloatArith
import Derived.Laws.BitsAllLaws
import Derived.Deep.LoopGhost
import Derived.Deep.QuietTactic
import Derived.BigQuiet
import Derived.Outline
import Derived.Test.YtdhjbhcfkajfdaaGreatDoorC01
import Derived.Deep.DeepCutAuto
import Derived.Deep.CutBlock
import Derived.StillTailTactics
import Derived.Test.YtdhjbhcfkajfdaaGreatDoorC52
namespace Go.Proofs.YtdhjbhcfkajfdaaGreatDoor
open Go Go.Shelf Go.RowKit Go.Sort Go.Lib
namespace LM
set_option linter.unusedVariables false

end LM
end Go.Proofs.YtdhjbhcfkajfdaaGreatDoor

namespace Go.Proofs.YtdhjbhcfkajfdaaGreatDoor
open Go Go.Shelf Go.RowKit Go.Sort Go.Lib
namespace LM
set_option linter.unusedVariables false

end LM
end Go.Proofs.YtdhjbhcfkajfdaaGreatDoor

namespace Go.Proofs.YtdhjbhcfkajfdaaGreatDoor
open Go Go.Shelf Go.RowKit Go.Sort Go.Lib
namespace LM
set_option linter.unusedVariables false

end LM
end Go.Proofs.YtdhjbhcfkajfdaaGreatDoor

namespace Go.Proofs.YtdhjbhcfkajfdaaGreatDoor
open Go Go.Shelf Go.RowKit Go.Sort Go.Lib
namespace LM
set_option linter.unusedVariables false

/-- digits, and where the point stands -/
structure FinT (D : List UInt8) (dp : Int) : Prop where
  ne : 1 ≤ D.length
  le : D.length ≤ 20
  dig : ∀ x ∈ D, 48 ≤ x.toNat ∧ x.toNat ≤ 57
  dp : -400 ≤ dp ∧ dp ≤ 400
end LM
end Go.Proofs.YtdhjbhcfkajfdaaGreatDoor

namespace Go.Proofs.YtdhjbhcfkajfdaaGreatDoor
open Go Go.Shelf Go.RowKit Go.Sort Go.Lib
namespace LM
set_option linter.unusedVariables false

end LM
end Go.Proofs.YtdhjbhcfkajfdaaGreatDoor

namespace Go.Proofs.YtdhjbhcfkajfdaaGreatDoor
open Go Go.Shelf Go.RowKit Go.Sort Go.Lib
namespace LM
set_option linter.unusedVariables false

end LM
end Go.Proofs.YtdhjbhcfkajfdaaGreatDoor

namespace Go.Proofs.YtdhjbhcfkajfdaaGreatDoor
open Go Go.Shelf Go.RowKit Go.Sort Go.Lib
namespace LM
set_option linter.unusedVariables false

end LM
end Go.Proofs.YtdhjbhcfkajfdaaGreatDoor

namespace Go.Proofs.YtdhjbhcfkajfdaaGreatDoor
open Go Go.Shelf Go.RowKit Go.Sort Go.Lib
namespace LM
set_option linter.unusedVariables false

end LM
end Go.Proofs.YtdhjbhcfkajfdaaGreatDoor

namespace Go.Proofs.YtdhjbhcfkajfdaaGreatDoor
open Go Go.Shelf Go.RowKit Go.Sort Go.Lib
namespace LM
set_option linter.unusedVariables false

end LM
end Go.Proofs.YtdhjbhcfkajfdaaGreatDoor

namespace Go.Proofs.YtdhjbhcfkajfdaaGreatDoor
open Go Go.Shelf Go.RowKit Go.Sort Go.Lib
namespace LM
set_option linter.unusedVariables false

end LM
end Go.Proofs.YtdhjbhcfkajfdaaGreatDoor

namespace Go.Proofs.YtdhjbhcfkajfdaaGreatDoor
open Go Go.Shelf Go.RowKit Go.Sort Go.Lib
namespace LM
set_option linter.unusedVariables false

def bt (l : List UInt8) (i : Nat) : Nat := (l.getD i 0).toNat
end LM
end Go.Proofs.YtdhjbhcfkajfdaaGreatDoor

namespace Go.Proofs.YtdhjbhcfkajfdaaGreatDoor
open Go Go.Shelf Go.RowKit Go.Sort Go.Lib
namespace LM
set_option linter.unusedVariables false

end LM
end Go.Proofs.YtdhjbhcfkajfdaaGreatDoor
