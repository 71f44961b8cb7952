import Derived.Test.YtaonablbgicmpaaGreatDoorE11
import Derived.Test.YtaonablbgicmpaaGreatDoorE07
import Derived.Test.YtaonablbgicmpaaGreatDoorE05
import Derived.Maps.AppendAt
import Derived.Test.YtaonablbgicmpaaGreatDoorE04
set_option linter.unusedVariables false
set_option linter.unusedSimpArgs false
set_option maxRecDepth 100000
set_option maxHeartbeats 16000000
namespace Go.Proofs.YtaonablbgicmpaaGreatDoor
open Go Go.RowKit
namespace LM
end LM
end Go.Proofs.YtaonablbgicmpaaGreatDoor
namespace Go.Proofs.YtaonablbgicmpaaGreatDoor
open Go.RowKit Go.Shelf
attribute [local go_sem] Oper.semAt_some
namespace LM
attribute [local go_sem] round_fn wide_fn
theorem heap_kept {W W' : World} {row : Option Nat} {k : Nat} {cs : Array Value} {t : TypeId} {fz : Nat × Nat} (h : W.heap[k]? = some (.cells cs t fz)) (hg : W.grownBy W' row) (hr : ∀ r,row = some r → ∃ o : Obj,W.heap[r]? = some o∧o.isCells = false) : W'.heap[k]? = some (.cells cs t fz) :=
 (hg.block k (Array.getElem?_eq_some_iff.1 h).1 (fun e=>by
  obtain ⟨o,ho,hc⟩:=hr k e.symm
  rw [h] at ho; injection ho with ho; subst ho; cases hc)).trans h
end LM
end Go.Proofs.YtaonablbgicmpaaGreatDoor
