/- Walks of the library: strconv.FormatUint at base 10; the builder's contracts at this program. -/
import Derived.Test.YtpnjddfnlaonoaaGreatDoorK04
import Derived.Test.YtpnjddfnlaonoaaGreatDoorK14
import Derived.Test.YtpnjddfnlaonoaaGreatDoorK07
import Derived.Lib.OthersKept
namespace Go.Proofs.YtpnjddfnlaonoaaGreatDoor
open Go Go.Shelf Go.RowKit Go.Sort Go.Lib
namespace LM

/-- what has grown by new blocks -/
theorem below_grow (w : World) (k : Nat) (os : Array Obj) : Below w.heap.size w (grow (w.drewN k) os) :=
  ⟨rfl, rfl, rfl, by simp [grow], fun i hi => by
    show (w.heap ++ os)[i]? = w.heap[i]?
    rw [Array.getElem?_append_left hi]⟩

end LM
end Go.Proofs.YtpnjddfnlaonoaaGreatDoor
