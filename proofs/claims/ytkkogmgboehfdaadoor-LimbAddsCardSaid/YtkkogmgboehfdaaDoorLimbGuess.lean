/- Plain mathematics of one limb of a quotient: the guess from the highest limbs is never too low. -/
import Derived.Test.YtkkogmgboehfdaaDoorLimbSteps
import Derived.Laws.Bits64b
namespace Go.Proofs.YtkkogmgboehfdaaDoor
open Go
namespace LM

def highOf (xs : List Nat) (n : Nat) : Nat := xs[n]?.getD 0 * 4294967296 + xs[n - 1]?.getD 0
def guessOf (xs ys : List Nat) (n : Nat) : Nat := min (highOf xs n / ys[n - 1]?.getD 0) 4294967295

theorem guess_ge {xs ys : List Nat} {n : Nat} (hx : Lm xs) (hxl : xs.length = n + 1) (hyl : ys.length = n) (hn : 0 < n) (hy : ys[n - 1]?.getD 0 ≠ 0)
    (h : val xs < val ys * 4294967296) : val xs < val ys * (guessOf xs ys n + 1) := by
  unfold guessOf
  rcases Nat.le_total (highOf xs n / ys[n - 1]?.getD 0) 4294967295 with h1 | h1
  · rw [Nat.min_eq_left h1]
    obtain ⟨m, rfl⟩ : ∃ m, n = m + 1 := ⟨n - 1, by omega⟩
    simp only [Nat.add_sub_cancel] at *
    have ex : val xs = val (xs.take m) + 4294967296 ^ m * highOf xs (m + 1) := by
      have e1 := val_take_succ xs m
      have e2 := val_take_succ xs (m + 1)
      rw [List.take_of_length_le (by omega : xs.length ≤ m + 1 + 1)] at e2
      rw [e2, e1, highOf, Nat.pow_succ, Nat.add_sub_cancel]
      grind
    have ey : val ys = val (ys.take m) + 4294967296 ^ m * ys[m]?.getD 0 := by
      have e1 := val_take_succ ys m
      rwa [List.take_of_length_le (by omega : ys.length ≤ m + 1)] at e1
    have hl : val (xs.take m) < 4294967296 ^ m := val_len_lt (hx.take m) (by simp; omega)
    generalize highOf xs (m + 1) = H at *
    generalize ys[m]?.getD 0 = t at *
    generalize 4294967296 ^ m = P at *
    have hd : H < t * (H / t + 1) := by
      have := Nat.lt_div_mul_add (a := H) (b := t) (by omega)
      rw [Nat.mul_add, Nat.mul_one, Nat.mul_comm]; exact this
    generalize H / t = q at *
    have h2 : P * (H + 1) ≤ P * (t * (q + 1)) := Nat.mul_le_mul_left _ hd
    have h3 : P * t * (q + 1) ≤ val ys * (q + 1) := Nat.mul_le_mul_right _ (by omega)
    rw [Nat.mul_assoc] at h3
    rw [Nat.mul_add, Nat.mul_one] at h2
    omega
  · rw [Nat.min_eq_right h1]; exact h
theorem guess_lt (xs ys : List Nat) (n : Nat) : guessOf xs ys n < 4294967296 := by unfold guessOf; omega

theorem or_high {x y : Nat} (hx : x < 4294967296) (hy : y < 4294967296) : bits .or .u64 ((x : Int) * 4294967296) (y : Int) = ((x * 4294967296 + y : Nat) : Int) := by
  rw [show ((x : Int) * 4294967296) = ((x * 4294967296 : Nat) : Int) from by simp, bits_or_u64_nat _ _ (by omega) (by omega)]
  congr 1
  have := Nat.shiftLeft_add_eq_or_of_lt (b := y) (i := 32) (by omega) x
  rw [Nat.shiftLeft_eq] at this
  exact this.symm

end LM
end Go.Proofs.YtkkogmgboehfdaaDoor
