/- Mathematics of floating numbers: their values in units of the least place; order, sums, whole numbers; words' bits. -/
import Derived.Test.YtmocnoiieiakhaaGreatDoorV29
import Derived.Laws.BitsAllLaws
import GoSem.Extern.MathFloor
namespace Go.Proofs.YtmocnoiieiakhaaGreatDoor
namespace LM
open Ieee Go

/-- a number's value in units of the least place -/
def sv (s : Bool) (m : Nat) (e : Int) : Int := if s then -((m * 2 ^ (e + 1074).toNat : Nat) : Int) else ((m * 2 ^ (e + 1074).toNat : Nat) : Int)

end LM
end Go.Proofs.YtmocnoiieiakhaaGreatDoor
