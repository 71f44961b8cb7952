/- The parts of nine digits, apart from the walk: what stands between two rounds. · Walks of package limb: the iterator of the decimal parts: all of them come, the highest first. -/
import Derived.Test.YtdhjbhcfkajfdaaGreatDoorC11
import Derived.Test.YtdhjbhcfkajfdaaGreatDoorC07
import Derived.Test.YtdhjbhcfkajfdaaGreatDoorC05
import Derived.Maps.AppendAt
import Derived.Deep.OwnRows
import Derived.Laws.CopyOwn
import Derived.Test.YtdhjbhcfkajfdaaGreatDoorC03
import Derived.Test.YtdhjbhcfkajfdaaGreatDoorC01
import Derived.Deep.RegionWith
namespace Go.Proofs.YtdhjbhcfkajfdaaGreatDoor
open Go Go.RowKit
namespace LM

end LM
end Go.Proofs.YtdhjbhcfkajfdaaGreatDoor

namespace Go.Proofs.YtdhjbhcfkajfdaaGreatDoor
open Go.RowKit Go.Shelf
attribute [local go_sem] Oper.semAt_some
namespace LM
attribute [local go_sem] round_fn wide_fn

theorem heap_kept {W W' : World} {row : Option Nat} {k : Nat} {cs : Array Value} {t : TypeId} {fz : Nat × Nat} (h : W.heap[k]? = some (.cells cs t fz)) (hg : W.grownBy W' row) (hr : ∀ r, row = some r → ∃ o : Obj, W.heap[r]? = some o ∧ o.isCells = false) : W'.heap[k]? = some (.cells cs t fz) :=
  (hg.block k (Array.getElem?_eq_some_iff.1 h).1 (fun e => by
    obtain ⟨o, ho, hc⟩ := hr k e.symm
    rw [h] at ho; injection ho with ho; subst ho; cases hc)).trans h

end LM
end Go.Proofs.YtdhjbhcfkajfdaaGreatDoor
