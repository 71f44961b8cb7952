/- Walks of package limb: Of and Small. -/
import Derived.Sort.AtCallIn
import Derived.Sort.QuietIn
import Derived.Test.YtmocnoiieiakhaaGreatDoorV05
import Derived.Test.YtmocnoiieiakhaaGreatDoorV06
import Derived.Deep.OwnRows
import Derived.Laws.CopyOwn
import Derived.Test.YtmocnoiieiakhaaGreatDoorProg
import Derived.Test.YtmocnoiieiakhaaGreatDoorV02
import Derived.Test.YtmocnoiieiakhaaGreatDoorV01
import Derived.Deep.RegionWith
import Derived.Maps.AppendAt
import Derived.Laws.Rows
namespace Go.Proofs.YtmocnoiieiakhaaGreatDoor
open Go.RowKit Go.Shelf
attribute [local go_sem] Oper.semAt_some
namespace LM
attribute [local go_sem] round_fn wide_fn

end LM
end Go.Proofs.YtmocnoiieiakhaaGreatDoor

namespace Go.Proofs.YtmocnoiieiakhaaGreatDoor
open Go.RowKit
namespace LM

/-- too great for 64 limbs -/
def BIG (n : Nat) : Prop := 4294967296 ^ 64 ≤ n
end LM
end Go.Proofs.YtmocnoiieiakhaaGreatDoor

namespace Go.Proofs.YtmocnoiieiakhaaGreatDoor
open Go.RowKit
namespace LM

end LM
end Go.Proofs.YtmocnoiieiakhaaGreatDoor

namespace Go.Proofs.YtmocnoiieiakhaaGreatDoor
open Go.RowKit
namespace LM

end LM
end Go.Proofs.YtmocnoiieiakhaaGreatDoor

namespace Go.Proofs.YtmocnoiieiakhaaGreatDoor
open Go.RowKit
namespace LM

end LM
end Go.Proofs.YtmocnoiieiakhaaGreatDoor

namespace Go.Proofs.YtmocnoiieiakhaaGreatDoor
open Go.RowKit
namespace LM

def BigI (z : Int) : Prop := BIG z.natAbs
/-! ### Sums, products, quotients, by sign and size -/
instance : DecidablePred BigI := fun z => inferInstanceAs (Decidable (4294967296 ^ 64 ≤ z.natAbs))
/-! ### A struct's block -/
end LM
end Go.Proofs.YtmocnoiieiakhaaGreatDoor

namespace Go.Proofs.YtmocnoiieiakhaaGreatDoor
open Go.RowKit Go.Shelf
attribute [local go_sem] Oper.semAt_some
namespace LM
attribute [local go_sem] round_fn wide_fn

end LM
end Go.Proofs.YtmocnoiieiakhaaGreatDoor

namespace Go.Proofs.YtmocnoiieiakhaaGreatDoor
open Go Go.RowKit
namespace LM

section
variable {F : Fence} {n : Nat} {P : Program} {ops : Array Oper} {C : World → Prop} {md : Region.Mode} {Q : Exit → Act → World → Prop} {E : Nat → Bool}

end

section
variable {w w' : World} {p g : Nat} {v u : Value} {cs : List Value}
end

section
variable {w0 W W' : World} {xs ys : List Nat} {s k : Nat} {b7 b8 : Bool} {v8 v9 v44 v47 v48 : Value}
end

end LM
end Go.Proofs.YtmocnoiieiakhaaGreatDoor

namespace Go.Proofs.YtmocnoiieiakhaaGreatDoor
open Go Go.RowKit
namespace LM

end LM
end Go.Proofs.YtmocnoiieiakhaaGreatDoor

namespace Go.Proofs.YtmocnoiieiakhaaGreatDoor
open Go.RowKit
namespace LM

end LM
end Go.Proofs.YtmocnoiieiakhaaGreatDoor

namespace Go.Proofs.YtmocnoiieiakhaaGreatDoor
open Go.RowKit
namespace LM

end LM
end Go.Proofs.YtmocnoiieiakhaaGreatDoor
