/- Plain mathematics of decimal texts: what digits mean, and what the library makes of nine of them. -/
import Derived.Lib.ParseIntBCases
import Derived.Test.YtpnjddfnlaonoaaGreatDoorK07
namespace Go.Proofs.YtpnjddfnlaonoaaGreatDoor
open Go
namespace LM

/-- every byte is a digit -/
def Digs (l : List UInt8) : Prop := ∀ c ∈ l, 48 ≤ c.toNat ∧ c.toNat ≤ 57
/-- what digits mean, behind a number -/
def dval (acc : Nat) (l : List UInt8) : Nat := l.foldl (fun a c => a * 10 + (c.toNat - 48)) acc
theorem Digs.take {l : List UInt8} (h : Digs l) (n : Nat) : Digs (l.take n) := fun c hc => h c (List.mem_of_mem_take hc)
theorem Digs.drop {l : List UInt8} (h : Digs l) (n : Nat) : Digs (l.drop n) := fun c hc => h c (List.mem_of_mem_drop hc)
theorem Digs.append {l m : List UInt8} (h : Digs l) (k : Digs m) : Digs (l ++ m) := fun c hc => (List.mem_append.1 hc).elim (h c) (k c)

end LM
end Go.Proofs.YtpnjddfnlaonoaaGreatDoor
