/- Plain mathematics of a number's decimal text, part by part of nine digits. -/
import Derived.Lib.ItoaNum
import Derived.Lib.ItoaMem
import Derived.Lib.Repeat
import Derived.Test.YtmocnoiieiakhaaGreatDoorV01
namespace Go.Proofs.YtmocnoiieiakhaaGreatDoor
open Go
namespace LM

/-- parts of nine digits, the lowest first -/
def v9 : List Nat → Nat
  | [] => 0
  | x :: xs => x + 1000000000 * v9 xs
end LM
end Go.Proofs.YtmocnoiieiakhaaGreatDoor
