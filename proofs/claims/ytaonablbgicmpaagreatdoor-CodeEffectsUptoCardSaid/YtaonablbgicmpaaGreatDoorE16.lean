import Derived.Test.YtaonablbgicmpaaGreatDoorE08
import Derived.Test.YtaonablbgicmpaaGreatDoorE14
import Derived.Test.YtaonablbgicmpaaGreatDoorE07
import Derived.Test.YtaonablbgicmpaaGreatDoorE10
import Derived.Lib.SmallJoins
import Derived.Test.YtaonablbgicmpaaGreatDoorE09
set_option linter.unusedVariables false
set_option linter.unusedSimpArgs false
set_option maxRecDepth 100000
set_option maxHeartbeats 16000000
namespace Go.Proofs.YtaonablbgicmpaaGreatDoor
open Go.RowKit
namespace LM
theorem str_cons (a : UInt8) (l : List UInt8) : (⟨#[a]⟩ ++ ⟨l.toArray⟩ : ByteArray) = ⟨(a :: l).toArray⟩:=by
 apply ByteArray.ext
 apply Array.ext'
 rw [Joins.data_append]
 rfl
def decI (z : Int) : List UInt8:=if z < 0 then 45 :: Lib.decDigits z.natAbs else Lib.decDigits z.natAbs
end LM
namespace LM
end LM
namespace LM
end LM
namespace LM
def signOf (l : List UInt8) : Bool × List UInt8:=if Lib.hasPrefix l [45] then (true,Lib.trimPrefix l [45]) else (false,Lib.trimPrefix l [43])
def POut (l : List UInt8) (z er : Int) : Prop:=(¬ OkText (signOf l).2∧z = 0∧er = 13) ∨ (OkText (signOf l).2∧BIG (dval 0 (signOf l).2)∧z = 0∧er = 11) ∨ (OkText (signOf l).2∧¬ BIG (dval 0 (signOf l).2)∧z = sg (signOf l).1 (dval 0 (signOf l).2)∧er = 0)
end LM
end Go.Proofs.YtaonablbgicmpaaGreatDoor
