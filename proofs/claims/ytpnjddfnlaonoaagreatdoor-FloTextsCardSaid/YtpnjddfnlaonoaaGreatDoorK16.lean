/- The parts of nine digits, apart from the walk: what stands between two rounds. · Walks of package limb: the iterator of the decimal parts: all of them come, the highest first. -/
import Derived.Test.YtpnjddfnlaonoaaGreatDoorK07
import Derived.Test.YtpnjddfnlaonoaaGreatDoorK15
import Derived.Test.YtpnjddfnlaonoaaGreatDoorK14
import Derived.Maps.AppendAt
import Derived.Test.YtpnjddfnlaonoaaGreatDoorK12
namespace Go.Proofs.YtpnjddfnlaonoaaGreatDoor
open Go Go.RowKit
namespace LM

end LM
end Go.Proofs.YtpnjddfnlaonoaaGreatDoor

namespace Go.Proofs.YtpnjddfnlaonoaaGreatDoor
open Go.RowKit Go.Shelf
attribute [local go_sem] Oper.semAt_some
namespace LM
attribute [local go_sem] round_fn wide_fn

theorem heap_kept {W W' : World} {row : Option Nat} {k : Nat} {cs : Array Value} {t : TypeId} {fz : Nat × Nat} (h : W.heap[k]? = some (.cells cs t fz)) (hg : W.grownBy W' row) (hr : ∀ r, row = some r → ∃ o : Obj, W.heap[r]? = some o ∧ o.isCells = false) : W'.heap[k]? = some (.cells cs t fz) :=
  (hg.block k (Array.getElem?_eq_some_iff.1 h).1 (fun e => by
    obtain ⟨o, ho, hc⟩ := hr k e.symm
    rw [h] at ho; injection ho with ho; subst ho; cases hc)).trans h

/-- what stands between two rounds of the second loop -/
def PtI (J : List Nat → World → Prop) (low : List Nat) (rest : List Value) (yb : Nat) (yv : Value) (h cap bs : Nat) (pre : List (Plc low.length fun j v => low[j]? = some v)) (wr : World) : Prop :=
  J (pre.map fun x => x.1.2) wr ∧ wr.heap[yb]? = some (.cells #[yv] 239 (0, 0)) ∧ SBox wr bs (.slice (some ⟨h, 0, none⟩) low.length cap) ∧ Blk wr h (U low ++ rest)

theorem PtI.own {J : List Nat → World → Prop} {low : List Nat} {rest : List Value} {yb : Nat} {yv : Value} {h cap bs B B0 : Nat} (hJ : OwnFrom B0 J) (hB : B0 ≤ B) : OwnFrom B (PtI J low rest yb yv h cap bs) := fun s A C row hs hg hr => by
  obtain ⟨a1, a2, a3, a4⟩ := hs
  have hr2 := fun r e => (hr r e).2
  exact ⟨hJ _ _ _ _ a1 hg (fun r e => ⟨Nat.le_trans hB (hr r e).1, (hr r e).2⟩), heap_kept a2 hg hr2, a3.kept hg hr2, a4.kept hg hr2⟩
end LM
end Go.Proofs.YtpnjddfnlaonoaaGreatDoor
