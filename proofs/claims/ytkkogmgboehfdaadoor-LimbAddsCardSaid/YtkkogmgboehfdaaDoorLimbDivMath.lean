/- Plain mathematics of the long division, limb by limb from the highest one on. -/
import Derived.Test.YtkkogmgboehfdaaDoorLimbSteps
import Derived.Test.YtkkogmgboehfdaaDoorLimbShift
namespace Go.Proofs.YtkkogmgboehfdaaDoor
namespace LM

/-- the piece of the rest in which one limb of the quotient is sought -/
theorem win_val {cur : List Nat} {i n D : Nat} (hL : Lm cur) (hlen : i + n + 1 ≤ cur.length) (hd : val (cur.drop (i + 1)) < D) (hD : D ≤ 4294967296 ^ n) :
    val ((cur.drop i).take (n + 1)) = val (cur.drop i) ∧ val (cur.drop (i + n + 1)) = 0 ∧ val (cur.drop i) < D * 4294967296 := by
  have e1 := val_split (cur.drop (i + 1)) n
  rw [List.length_drop, Nat.min_eq_left (by omega), List.drop_drop, show i + 1 + n = i + n + 1 from by omega] at e1
  have h0 : val (cur.drop (i + n + 1)) = 0 := by
    rcases Nat.eq_zero_or_pos (val (cur.drop (i + n + 1))) with h | h
    · exact h
    · have := Nat.mul_le_mul_left (4294967296 ^ n) h
      omega
  have e2 := val_split (cur.drop i) (n + 1)
  rw [List.drop_drop, show i + (n + 1) = i + n + 1 from by omega, h0, Nat.mul_zero, Nat.add_zero] at e2
  refine ⟨e2.symm, h0, ?_⟩
  rw [drop_cons_get cur i (by omega), val]
  have := hL.get i
  have h3 := Nat.mul_le_mul_left 4294967296 hd
  omega

/-- one limb of the quotient has been found -/
theorem div_round {cur zs qs : List Nat} {i n D q R : Nat} (hlen : i + n + 1 ≤ cur.length) (hz : zs.length = n + 1) (h0 : val (cur.drop (i + n + 1)) = 0) (hw : val ((cur.drop i).take (n + 1)) = val (cur.drop i))
    (hR : R = val cur + D * 4294967296 ^ (i + 1) * val qs) (hv : val zs + D * q = val ((cur.drop i).take (n + 1))) :
    R = val (cur.take i ++ zs ++ cur.drop (i + n + 1)) + D * 4294967296 ^ i * val (q :: qs) ∧ val ((cur.take i ++ zs ++ cur.drop (i + n + 1)).drop i) = val zs ∧ (cur.take i ++ zs ++ cur.drop (i + n + 1)).length = cur.length := by
  have hi : (cur.take i).length = i := by simp; omega
  refine ⟨?_, ?_, by simp; omega⟩
  · have e1 := val_split cur i
    rw [Nat.min_eq_left (by omega)] at e1
    rw [List.append_assoc, val_append, val_append, h0, hi, Nat.mul_zero, Nat.add_zero, val]
    rw [hw] at hv
    rw [Nat.pow_succ] at hR
    generalize 4294967296 ^ i = P at *
    grind
  · rw [List.append_assoc, List.drop_left' hi, val_append, h0, Nat.mul_zero, Nat.add_zero]

/-- the end: shifted back, the rest is the rest -/
theorem div_end {x y s c Q z t : Nat} (hR : x * 2 ^ s = c + y * 2 ^ s * Q) (hc : c < y * 2 ^ s) (hz : z * 2 ^ s + t = c) (ht : t < 2 ^ s) : Q = x / y ∧ z = x % y := by
  have hN : 0 < 2 ^ s := Nat.pow_pos (by decide)
  have e1 : x * 2 ^ s = (z + y * Q) * 2 ^ s + t := by rw [hR, ← hz]; grind
  have e2 : x = z + y * Q := by
    have h1 := congrArg (· / 2 ^ s) e1
    simp only [Nat.mul_div_cancel _ hN] at h1
    rw [Nat.add_comm, Nat.add_mul_div_right _ _ hN, Nat.div_eq_of_lt ht, Nat.zero_add] at h1
    exact h1
  have hzy : z < y := by
    rcases Nat.lt_or_ge z y with h | h
    · exact h
    · have := Nat.mul_le_mul_right (2 ^ s) h
      omega
  constructor
  · rw [e2, Nat.add_mul_div_left _ _ (by omega), Nat.div_eq_of_lt hzy, Nat.zero_add]
  · rw [e2, Nat.add_mul_mod_self_left, Nat.mod_eq_of_lt hzy]

/-- the divisor, shifted up till its highest bit is set, is as long as it was -/
theorem shifted_len {ys zs : List Nat} {s : Nat} (hs : s < 32) (hy : Can ys) (hz : Can zs) (hn : 0 < ys.length) (hv : val zs = val ys * 2 ^ s) (ht : ys[ys.length - 1]?.getD 0 * 2 ^ s < 4294967296) : zs.length = ys.length := by
  have hle : ys.length ≤ zs.length := by
    rcases Nat.lt_or_ge zs.length ys.length with h | h
    · have h1 := can_len_lt hz hy h
      have h2 : val ys * 1 ≤ val ys * 2 ^ s := Nat.mul_le_mul_left _ (Nat.pow_pos (by decide))
      omega
    · exact h
  rcases Nat.lt_or_ge ys.length zs.length with h | h
  · have h1 := (can_len hz ys.length).1 h
    obtain ⟨m, hm⟩ : ∃ m, ys.length = m + 1 := ⟨ys.length - 1, by omega⟩
    have e1 := val_take_succ ys m
    rw [List.take_of_length_le (by omega)] at e1
    rw [hm, Nat.add_sub_cancel] at ht
    have e2 := val_len_lt (hy.1.take m) (n := m) (by simp; omega)
    rw [hv, hm, e1, Nat.pow_succ] at h1
    generalize ys[m]?.getD 0 = t at *
    generalize 4294967296 ^ m = P at *
    have hMN := pow_split hs
    have hNp : 0 < 2 ^ s := Nat.pow_pos (by decide)
    generalize 2 ^ s = N at *
    generalize 2 ^ (32 - s) = M at *
    have h5 : t + 1 ≤ M := by
      rw [← hMN] at ht
      exact Nat.lt_of_mul_lt_mul_right ht
    have h6 : (val (ys.take m) + P * t) + 1 ≤ P * (t + 1) := by rw [Nat.mul_add, Nat.mul_one]; omega
    have h7 := Nat.mul_le_mul_right N h6
    have h8 := Nat.mul_le_mul_left P (Nat.mul_le_mul_right N h5)
    rw [hMN, ← Nat.mul_assoc] at h8
    rw [Nat.add_mul, Nat.one_mul] at h7
    omega
  · omega

end LM
end Go.Proofs.YtkkogmgboehfdaaDoor
