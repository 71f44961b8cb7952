/- Plain mathematics of a number's decimal text, part by part of nine digits. -/
import Derived.Lib.ItoaNum
import Derived.Lib.ItoaMem
import Derived.Lib.Repeat
import Derived.Test.YtpnjddfnlaonoaaGreatDoorK01
namespace Go.Proofs.YtpnjddfnlaonoaaGreatDoor
open Go
namespace LM

/-- parts of nine digits, the lowest first -/
def v9 : List Nat → Nat
  | [] => 0
  | x :: xs => x + 1000000000 * v9 xs
/-- the same, the highest first -/
def vp (xs : List Nat) : Nat := v9 xs.reverse
theorem dec_big {u : Nat} (h : ¬ u < 10) : Lib.decDigits u = Lib.decDigits (u / 10) ++ [UInt8.ofNat (48 + u % 10)] := by rw [Lib.decDigits, dif_neg h]
theorem nDigits_le {p k : Nat} (h : p < 10 ^ (k + 1)) : Lib.nDigits p ≤ k + 1 := by
  rcases Nat.eq_zero_or_pos p with rfl | hp
  · rw [Lib.nDigits_small (by decide)]; omega
  · rcases Nat.lt_or_ge (k + 1) (Lib.nDigits p) with h1 | h1
    · exfalso
      have : ∀ (m u : Nat), 0 < u → Lib.nDigits u = m + 1 → 10 ^ m ≤ u := by
        intro m
        induction m with
        | zero => intro u hu _; rw [Nat.pow_zero]; exact hu
        | succ m ih =>
          intro u hu hd
          by_cases hb : u < 10
          · rw [Lib.nDigits_small hb] at hd; omega
          · rw [Lib.nDigits_big hb] at hd
            have := ih (u / 10) (by omega) (by omega)
            rw [Nat.pow_succ]; omega
      have h2 := this (Lib.nDigits p - 1) p hp (by omega)
      have h3 : 10 ^ (k + 1) ≤ 10 ^ (Lib.nDigits p - 1) := Nat.pow_le_pow_right (by decide) (by omega)
      omega
    · exact h1
/-- what has been written when these parts have come -/
def tx (pre : List Nat) : List UInt8 := if pre = [] then [] else Lib.decDigits (vp pre)
end LM
end Go.Proofs.YtpnjddfnlaonoaaGreatDoor
