/- Mathematics of floating numbers in 64 bits: what a word stands for, and which word is nearest. -/
import GoSem.Core.Float
import Derived.Laws.FloatArith
namespace Go.Proofs.YtmocnoiieiakhaaGreatDoor
namespace LM
open Ieee

def nanW (b : Nat) : Prop := 9218868437227405312 < b % 9223372036854775808
instance (b : Nat) : Decidable (nanW b) := by unfold nanW; infer_instance

end LM
end Go.Proofs.YtmocnoiieiakhaaGreatDoor
