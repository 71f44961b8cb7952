/- Walk of the library: strconv.FormatFloat with as few digits as are read back. -/
import Derived.Test.YtnpmfailpgbggaaGreatDoorK35
import Derived.Test.YtnpmfailpgbggaaGreatDoorK36
import Derived.Test.YtnpmfailpgbggaaGreatDoorK26
import Derived.Test.YtnpmfailpgbggaaGreatDoorK10
import Derived.Laws.FloatArith
namespace Go.Proofs.YtnpmfailpgbggaaGreatDoor
open Go Go.Shelf Go.RowKit Go.Sort Go.Lib
namespace LM
set_option linter.unusedVariables false

theorem OB.digits {B : Nat} {W0 : World} {g g0 : Nat} {ds : List UInt8} {v : Value} {bs : List UInt8} {w w' : World} (h : OB B W0 g0 [] v bs w) (hg : w.grownBy w' (some g)) (hv : v.ownBlock ≠ some g) (hB : B ≤ g) (hl : g < w.heap.size) (hd : BufHas w' g ds) : OB B W0 g ds v bs w' := by
  obtain ⟨h1, h2, h3, h4⟩ := h
  exact ⟨h1.kept hg (.inr hv), h2.grown hg h3 (fun k e => by injection e with e; omega), Nat.le_trans h3 hg.size, .inr ⟨Nat.lt_of_lt_of_le hl hg.size, hv, hd⟩⟩
end LM
end Go.Proofs.YtnpmfailpgbggaaGreatDoor
