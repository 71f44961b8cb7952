/- Plain mathematics of a number's decimal text, part by part of nine digits. -/
import Derived.Lib.ItoaNum
import Derived.Lib.ItoaMem
import Derived.Lib.Repeat
import Derived.Test.YtdhjbhcfkajfdaaGreatDoorC01
namespace Go.Proofs.YtdhjbhcfkajfdaaGreatDoor
open Go
namespace LM

/-- parts of nine digits, the lowest first -/
def v9 : List Nat → Nat
  | [] => 0
  | x :: xs => x + 1000000000 * v9 xs
/-- the same, the highest first -/
def vp (xs : List Nat) : Nat := v9 xs.reverse
/-- what has been written when these parts have come -/
def tx (pre : List Nat) : List UInt8 := if pre = [] then [] else Lib.decDigits (vp pre)
end LM
end Go.Proofs.YtdhjbhcfkajfdaaGreatDoor
