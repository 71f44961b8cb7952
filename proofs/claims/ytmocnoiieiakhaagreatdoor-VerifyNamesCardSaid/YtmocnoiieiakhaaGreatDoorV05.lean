/- A range over an iterator that makes memory of its own between its rounds, and whose body never leaves the loop early: what the two keep of each other is told by the kind of the blocks: the body turns none of the iterator's that isn't a row of bytes. · The library's slices.Backward over limbs as an iterator that tells everything, in its order. -/
import Derived.RangeFuncNested
import Derived.RangeFuncBound
import Derived.RangeFuncCalls
import Derived.RangeFuncLeaves
import Derived.RangeFuncBox
import Derived.Shelf.Abstract
import Derived.Shelf.RegionOpen
import Derived.OwnWalkIn
import Derived.TacticsInMore
import Derived.LoopNIn
import Derived.LoopIn
import Derived.Deep.OwnRows
import Derived.Laws.CopyOwn
import Derived.Test.YtmocnoiieiakhaaGreatDoorProg
import Derived.Test.YtmocnoiieiakhaaGreatDoorV02
import Derived.Test.YtmocnoiieiakhaaGreatDoorV01
import Derived.Deep.RegionWith
import Derived.Maps.AppendAt
namespace Go.Proofs.YtmocnoiieiakhaaGreatDoor
open Go.RowKit Go.Shelf
attribute [local go_sem] Oper.semAt_some
namespace LM

end LM
end Go.Proofs.YtmocnoiieiakhaaGreatDoor

namespace Go.Proofs.YtmocnoiieiakhaaGreatDoor
open Go.RowKit Go.Shelf
attribute [local go_sem] Oper.semAt_some
namespace LM

end LM
end Go.Proofs.YtmocnoiieiakhaaGreatDoor

namespace Go.Proofs.YtmocnoiieiakhaaGreatDoor
open Go Go.RowKit
namespace LM

/-- a row of bytes -/
def bytesObj : Obj → Bool
  | .cells _ t _ => t == 5
  | _ => false

/-- from block B on, what is no row of bytes lies as it lay -/
structure Keeps8 (B : Nat) (W W' : World) : Prop where
  size : W.heap.size ≤ W'.heap.size
  same : ∀ (k : Nat) (o : Obj), B ≤ k → W.heap[k]? = some o → bytesObj o = false → W'.heap[k]? = some o

end LM
end Go.Proofs.YtmocnoiieiakhaaGreatDoor

namespace Go.Proofs.YtmocnoiieiakhaaGreatDoor
open Go.RowKit Go.Shelf
attribute [local go_sem] Oper.semAt_some
namespace LM

end LM
end Go.Proofs.YtmocnoiieiakhaaGreatDoor
