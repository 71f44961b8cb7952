/- What a row lists of the library's sentinel, as the walk of Parse reads it. -/
import Derived.Test.YtdhjbhcfkajfdaaGreatDoorC10
import Derived.Test.YtdhjbhcfkajfdaaGreatDoorC07
import Derived.LaidSub
import Derived.Lib.LaidTab
namespace Go.Proofs.YtdhjbhcfkajfdaaGreatDoor
open Go.RowKit
namespace LM

theorem spot_none {w : World} {x : Addr} {v : Value} (h : w.cell? x = some v) : x = ⟨x.block, x.off, none⟩ ∧ x.block < w.heap.size := by
  obtain ⟨b, o, s⟩ := x
  unfold World.cell? at h
  dsimp only at h
  cases hb : w.heap[b]? with
  | none => rw [hb] at h; cases h
  | some ob =>
    rw [hb] at h
    have hlt := (Array.getElem?_eq_some_iff.1 hb).1
    cases s with
    | none => exact ⟨rfl, hlt⟩
    | some k =>
      exfalso
      cases ob <;> first | (cases h; done) | simp at h

end LM
end Go.Proofs.YtdhjbhcfkajfdaaGreatDoor

namespace Go.Proofs.YtdhjbhcfkajfdaaGreatDoor
open Go.RowKit
namespace LM

end LM
end Go.Proofs.YtdhjbhcfkajfdaaGreatDoor
