/- What the library's tables hold, as a walk reads them. -/
import Derived.Test.YtmocnoiieiakhaaGreatDoorProg
import Derived.WalkKit
import Derived.LaidMore
import Derived.Lib.LaidTab
import Derived.ChangeSame
import GoSem.PinnedTables
namespace Go.Proofs.YtmocnoiieiakhaaGreatDoor
open Go.RowKit Go.ChangeShapes
namespace LM

/-- the library's powers of ten: two cells each -/
def PTab (w : World) : Prop := ∀ i x, Go.Pinned.pow10Rows[i]? = some x →
  w.cell? ⟨11, i * 2, none⟩ = some (.int .u64 (x.1 : Nat)) ∧ w.cell? ⟨11, i * 2 + 1, none⟩ = some (.int .u64 (x.2 : Nat))

end LM
end Go.Proofs.YtmocnoiieiakhaaGreatDoor
