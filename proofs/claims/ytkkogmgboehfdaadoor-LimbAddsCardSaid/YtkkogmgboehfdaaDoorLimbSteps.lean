/- Plain mathematics: one round of each of the loops over limbs. -/
import Derived.Test.YtkkogmgboehfdaaDoorLimbMath
namespace Go.Proofs.YtkkogmgboehfdaaDoor
namespace LM

theorem addTimes_step {xs ys zs : List Nat} {n k cy : Nat} (hz : zs.length = k)
    (h : val zs + 4294967296 ^ k * cy = val (xs.take k) + val (ys.take k) * n) :
    val (zs ++ [(cy + (ys[k]?.getD 0 * n + xs[k]?.getD 0)) % 4294967296]) + 4294967296 ^ (k + 1) * ((cy + (ys[k]?.getD 0 * n + xs[k]?.getD 0)) / 4294967296) = val (xs.take (k + 1)) + val (ys.take (k + 1)) * n := by
  rw [val_snoc, val_take_succ, val_take_succ, hz, Nat.pow_succ]
  generalize xs[k]?.getD 0 = x
  generalize ys[k]?.getD 0 = y
  have e := Nat.div_add_mod (cy + (y * n + x)) 4294967296
  generalize (cy + (y * n + x)) / 4294967296 = q at e ⊢
  generalize (cy + (y * n + x)) % 4294967296 = r at e ⊢
  generalize 4294967296 ^ k = P at h ⊢
  have e2 : r = cy + (y * n + x) - 4294967296 * q := by omega
  grind

theorem sumLo_lt (x y z : Nat) : (x + y + z) % 4294967296 < 4294967296 := Nat.mod_lt _ (by decide)

/-- a limb of the one, a limb of the other, and what is carried -/
theorem addTo_step {xs ys zs : List Nat} {k cy : Nat} (hz : zs.length = k)
    (h : val zs + 4294967296 ^ k * cy = val (xs.take k) + val (ys.take k)) :
    val (zs ++ [(xs[k]?.getD 0 + ys[k]?.getD 0 + cy) % 4294967296]) + 4294967296 ^ (k + 1) * ((xs[k]?.getD 0 + ys[k]?.getD 0 + cy) / 4294967296) = val (xs.take (k + 1)) + val (ys.take (k + 1)) := by
  rw [val_snoc, val_take_succ, val_take_succ, hz, Nat.pow_succ]
  generalize xs[k]?.getD 0 = x
  generalize ys[k]?.getD 0 = y
  have e := Nat.div_add_mod (x + y + cy) 4294967296
  generalize (x + y + cy) / 4294967296 = q at e ⊢
  generalize (x + y + cy) % 4294967296 = r at e ⊢
  generalize 4294967296 ^ k = P at h ⊢
  have e2 : r + 4294967296 * q = cy + (y + x) := by omega
  grind

/-- a difference and a borrow -/
theorem dif_step {x y z : Nat} (hx : x < 4294967296) (hy : y < 4294967296) (hz : z ≤ 1) :
    (x + 4294967296 - y - z) % 4294967296 + y + z = x + 4294967296 * (1 - (x + 4294967296 - y - z) / 4294967296) ∧ 1 - (x + 4294967296 - y - z) / 4294967296 ≤ 1 := by omega

/-- as often as n, the one is taken from the other -/
theorem subTimes_step {xs ys zs : List Nat} {n k cy br : Nat} (hz : zs.length = k)
    (h : val zs + val (ys.take k) * n = val (xs.take k) + 4294967296 ^ k * (cy + br)) {d b' : Nat}
    (hd : d + (cy + ys[k]?.getD 0 * n) % 4294967296 + br = xs[k]?.getD 0 + 4294967296 * b') :
    val (zs ++ [d]) + val (ys.take (k + 1)) * n = val (xs.take (k + 1)) + 4294967296 ^ (k + 1) * ((cy + ys[k]?.getD 0 * n) / 4294967296 + b') := by
  rw [val_snoc, val_take_succ, val_take_succ, hz, Nat.pow_succ]
  generalize xs[k]?.getD 0 = x at *
  generalize ys[k]?.getD 0 = y at *
  have e := Nat.div_add_mod (cy + y * n) 4294967296
  generalize (cy + y * n) / 4294967296 = q at e ⊢
  generalize (cy + y * n) % 4294967296 = r at e hd ⊢
  generalize 4294967296 ^ k = P at h ⊢
  grind
theorem Lm.snoc {xs : List Nat} {x : Nat} (h : Lm xs) (hx : x < 4294967296) : Lm (xs ++ [x]) := h.append (Lm.cons hx Lm.nil)
theorem carry_lt {c p x : Nat} (hc : c < 4294967296) (hp : p ≤ 18446744065119617025) (hx : x < 4294967296) : (c + (p + x)) / 4294967296 < 4294967296 := by omega
theorem prod_le {x y : Nat} (hx : x < 4294967296) (hy : y < 4294967296) : x * y ≤ 18446744065119617025 := by
  have := Nat.mul_le_mul (Nat.le_of_lt_succ hx : x ≤ 4294967295) (Nat.le_of_lt_succ hy : y ≤ 4294967295)
  exact this
theorem drop_cons_get (xs : List Nat) (k : Nat) (h : k < xs.length) : xs.drop k = xs[k]?.getD 0 :: xs.drop (k + 1) := by
  rw [List.drop_eq_getElem_cons h, List.getElem?_eq_getElem h]; rfl

/-- a number times another, and one more number -/
theorem timesPlus_step {xs zs : List Nat} {n m k cy : Nat} (hz : zs.length = k)
    (h : val zs + 4294967296 ^ k * cy = val (xs.take k) * n + m) :
    val (zs ++ [(cy + xs[k]?.getD 0 * n) % 4294967296]) + 4294967296 ^ (k + 1) * ((cy + xs[k]?.getD 0 * n) / 4294967296) = val (xs.take (k + 1)) * n + m := by
  rw [val_snoc, val_take_succ, hz, Nat.pow_succ]
  generalize xs[k]?.getD 0 = x
  have e := Nat.div_add_mod (cy + x * n) 4294967296
  generalize (cy + x * n) / 4294967296 = q at e ⊢
  generalize (cy + x * n) % 4294967296 = r at e ⊢
  generalize 4294967296 ^ k = P at h ⊢
  grind

end LM
end Go.Proofs.YtkkogmgboehfdaaDoor
