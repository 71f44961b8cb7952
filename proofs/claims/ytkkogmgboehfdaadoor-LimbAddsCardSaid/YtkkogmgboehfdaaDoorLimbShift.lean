/- Plain mathematics: limbs moved up or down by some bits. -/
import Derived.Test.YtkkogmgboehfdaaDoorLimbSteps
import Derived.Test.YtkkogmgboehfdaaDoorLimbBits
namespace Go.Proofs.YtkkogmgboehfdaaDoor
open Go
namespace LM

theorem pow_split {n : Nat} (hn : n < 32) : 2 ^ (32 - n) * 2 ^ n = 4294967296 := by
  rw [← Nat.pow_add, show 32 - n + n = 32 from by omega]
theorem up_mod (x : Nat) {n : Nat} (hn : n < 32) : x * 2 ^ n % 4294967296 = (x % 2 ^ (32 - n)) * 2 ^ n := by
  rw [← pow_split hn, Nat.mul_mod_mul_right]
theorem up_div (x : Nat) {n : Nat} (hn : n < 32) : x * 2 ^ n / 4294967296 = x / 2 ^ (32 - n) := by
  rw [← pow_split hn, Nat.mul_div_mul_right _ _ (Nat.pow_pos (by decide))]
theorem low_lt {y n : Nat} (hn : n < 32) (hy : y < 4294967296) : y / 2 ^ (32 - n) < 2 ^ n := by
  rw [Nat.div_lt_iff_lt_mul (Nat.pow_pos (by decide)), Nat.mul_comm, pow_split hn]; exact hy
theorem or_up (x y : Nat) {n : Nat} (hn : n < 32) (hy : y < 4294967296) : (x * 2 ^ n % 4294967296) ||| (y / 2 ^ (32 - n)) = x * 2 ^ n % 4294967296 + y / 2 ^ (32 - n) := by
  rw [up_mod x hn, ← Nat.shiftLeft_eq, Nat.shiftLeft_add_eq_or_of_lt (low_lt hn hy)]
theorem sum_lt (x y : Nat) {n : Nat} (hn : n < 32) (hy : y < 4294967296) : x * 2 ^ n % 4294967296 + y / 2 ^ (32 - n) < 4294967296 := by
  have h := or_up x y hn hy
  rw [← h]
  exact Nat.or_lt_two_pow (n := 32) (Nat.mod_lt _ (by decide)) (Nat.lt_of_le_of_lt (Nat.div_le_self _ _) hy)
theorem wrap_up (x n : Nat) : IntKind.u32.wrap ((x : Int) * 2 ^ n) = ((x * 2 ^ n % 4294967296 : Nat) : Int) := by
  rw [IntKind.wrap_u32]
  simp
theorem cast_div (y n : Nat) : (y : Int) / 2 ^ n = ((y / 2 ^ n : Nat) : Int) := by simp
theorem up_limb (x y : Nat) {n : Nat} (hn : n < 32) (hy : y < 4294967296) :
    bits BinOp.or IntKind.u32 (IntKind.u32.wrap ((x : Int) * 2 ^ n)) ((y : Int) / 2 ^ (32 - n)) = ((x * 2 ^ n % 4294967296 + y / 2 ^ (32 - n) : Nat) : Int) := by
  rw [wrap_up, cast_div, b32_or _ _ (Nat.mod_lt _ (by decide)) (Nat.lt_of_le_of_lt (Nat.div_le_self _ _) hy), or_up x y hn hy]
theorem up_step {xs zs : List Nat} {n k y : Nat} (hn : n < 32) (hz : zs.length = k) (h : val zs + 4294967296 ^ k * (y / 2 ^ (32 - n)) = val (xs.take k) * 2 ^ n) :
    val (zs ++ [xs[k]?.getD 0 * 2 ^ n % 4294967296 + y / 2 ^ (32 - n)]) + 4294967296 ^ (k + 1) * (xs[k]?.getD 0 / 2 ^ (32 - n)) = val (xs.take (k + 1)) * 2 ^ n := by
  rw [val_snoc, val_take_succ, hz, Nat.pow_succ, ← up_div (xs[k]?.getD 0) hn]
  generalize xs[k]?.getD 0 = x
  have e := Nat.div_add_mod (x * 2 ^ n) 4294967296
  generalize x * 2 ^ n / 4294967296 = q at e ⊢
  generalize x * 2 ^ n % 4294967296 = r at e ⊢
  generalize y / 2 ^ (32 - n) = t at h ⊢
  generalize 4294967296 ^ k = P at h ⊢
  generalize 2 ^ n = N at *
  grind

theorem down_mod (x : Nat) {n : Nat} (hn : n < 32) : x * 2 ^ (32 - n) % 4294967296 = (x % 2 ^ n) * 2 ^ (32 - n) := by
  rw [← pow_split hn, Nat.mul_comm (2 ^ (32 - n)) (2 ^ n), Nat.mul_mod_mul_right]
theorem high_lt {x n : Nat} (hn : n < 32) (hx : x < 4294967296) : x / 2 ^ n < 2 ^ (32 - n) := by
  rw [Nat.div_lt_iff_lt_mul (Nat.pow_pos (by decide)), pow_split hn]; exact hx
theorem or_down (x y : Nat) {n : Nat} (hn : n < 32) (hx : x < 4294967296) : (x / 2 ^ n) ||| (y * 2 ^ (32 - n) % 4294967296) = y * 2 ^ (32 - n) % 4294967296 + x / 2 ^ n := by
  rw [Nat.or_comm, down_mod y hn, ← Nat.shiftLeft_eq, Nat.shiftLeft_add_eq_or_of_lt (high_lt hn hx)]
theorem down_lt (x y : Nat) {n : Nat} (hn : n < 32) (hx : x < 4294967296) : y * 2 ^ (32 - n) % 4294967296 + x / 2 ^ n < 4294967296 := by
  have h := or_down x y hn hx
  rw [← h]
  exact Nat.or_lt_two_pow (n := 32) (Nat.lt_of_le_of_lt (Nat.div_le_self _ _) hx) (Nat.mod_lt _ (by decide))
theorem down_limb (x y : Nat) {n : Nat} (hn : n < 32) (hx : x < 4294967296) :
    bits BinOp.or IntKind.u32 ((x : Int) / 2 ^ n) (IntKind.u32.wrap ((y : Int) * 2 ^ (32 - n))) = ((y * 2 ^ (32 - n) % 4294967296 + x / 2 ^ n : Nat) : Int) := by
  rw [wrap_up, cast_div, b32_or _ _ (Nat.lt_of_le_of_lt (Nat.div_le_self _ _) hx) (Nat.mod_lt _ (by decide)), or_down x y hn hx]
theorem down_step {xs zs : List Nat} {n k c : Nat} (hn : n < 32) (hz : zs.length = k) (h : val zs * 2 ^ n + c = val (xs.take k) + 4294967296 ^ k * (xs[k]?.getD 0 % 2 ^ n)) :
    val (zs ++ [xs[k + 1]?.getD 0 * 2 ^ (32 - n) % 4294967296 + xs[k]?.getD 0 / 2 ^ n]) * 2 ^ n + c = val (xs.take (k + 1)) + 4294967296 ^ (k + 1) * (xs[k + 1]?.getD 0 % 2 ^ n) := by
  rw [val_snoc, val_take_succ, hz, Nat.pow_succ, down_mod _ hn]
  generalize xs[k]?.getD 0 = x at *
  generalize xs[k + 1]?.getD 0 = y at *
  have e := Nat.div_add_mod x (2 ^ n)
  have e2 := pow_split hn
  generalize x / 2 ^ n = q at *
  generalize x % 2 ^ n = r at *
  generalize y % 2 ^ n = t at *
  generalize 4294967296 ^ k = P at *
  generalize 2 ^ n = N at *
  generalize 2 ^ (32 - n) = M at *
  grind

end LM
end Go.Proofs.YtkkogmgboehfdaaDoor
