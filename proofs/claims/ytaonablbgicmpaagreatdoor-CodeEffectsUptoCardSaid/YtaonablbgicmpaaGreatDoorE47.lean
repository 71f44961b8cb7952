import Derived.Test.YtaonablbgicmpaaGreatDoorE19
import Derived.Test.YtaonablbgicmpaaGreatDoorE16
import Derived.Test.YtaonablbgicmpaaGreatDoorE31
set_option linter.unusedVariables false
set_option linter.unusedSimpArgs false
set_option maxRecDepth 100000
set_option maxHeartbeats 16000000
namespace Go.Proofs.YtaonablbgicmpaaGreatDoor
open Go Go.Shelf Go.RowKit Go.Sort Go.Lib
namespace LM
attribute [local go_sem] run_store_flt
theorem parV_err (l : List UInt8) (ff : Nat) : (parV l ff).2 = 0 ∨ parV l ff = (0,31):=by
 unfold parV
 split
 ·exact .inl rfl
 ·split
  ·exact .inl rfl
  ·split
   ·exact .inl rfl
   ·split
    ·exact .inr rfl
    ·exact .inl rfl
end LM
end Go.Proofs.YtaonablbgicmpaaGreatDoor
