/- Plain mathematics of limb lists: what a list of limbs means, and that a list without leading zeros is settled by its number. · Plain mathematics: one round of each of the loops over limbs. · Plain mathematics of 32 bit words: the borrow of a subtraction as the library works it out of the words' highest bits. · Plain mathematics: limbs moved up or down by some bits. · Plain mathematics of one limb of a quotient: the guess from the highest limbs is never too low. · Plain mathematics of the long division, limb by limb from the highest one on. · Plain mathematics: a number's bits, from the highest one on, as the document's answers go through them. -/
import Derived.Below
import Derived.Laws.Bits64
import Derived.WalkKit
import Derived.Laws.Bits64b
namespace Go.Proofs.YtcfhiihhfcnfbaaGreatDoor
namespace LM

def val : List Nat → Nat
  | [] => 0
  | x :: xs => x + 4294967296 * val xs

def Lm (xs : List Nat) : Prop := ∀ x ∈ xs, x < 4294967296

def trim : List Nat → List Nat
  | [] => []
  | x :: xs => if x = 0 ∧ trim xs = [] then [] else x :: trim xs

def Can (xs : List Nat) : Prop := Lm xs ∧ trim xs = xs

theorem Lm.nil : Lm [] := by intro x h; cases h
theorem Lm.cons {x : Nat} {xs : List Nat} (h : x < 4294967296) (hs : Lm xs) : Lm (x :: xs) := by
  intro y hy
  rcases List.mem_cons.1 hy with rfl | hy
  · exact h
  · exact hs y hy
theorem Lm.append {xs ys : List Nat} (h : Lm xs) (k : Lm ys) : Lm (xs ++ ys) := by
  intro y hy
  rcases List.mem_append.1 hy with hy | hy
  · exact h y hy
  · exact k y hy
theorem Lm.take {xs : List Nat} (h : Lm xs) (n : Nat) : Lm (xs.take n) := fun y hy => h y (List.mem_of_mem_take hy)
theorem Lm.drop {xs : List Nat} (h : Lm xs) (n : Nat) : Lm (xs.drop n) := fun y hy => h y (List.mem_of_mem_drop hy)
theorem Lm.get {xs : List Nat} (h : Lm xs) (i : Nat) : xs[i]?.getD 0 < 4294967296 := by
  rcases Nat.lt_or_ge i xs.length with hi | hi
  · rw [List.getElem?_eq_getElem hi]; exact h _ (List.getElem_mem hi)
  · rw [List.getElem?_eq_none hi]; decide
theorem Lm.head {x : Nat} {xs : List Nat} (h : Lm (x :: xs)) : x < 4294967296 := h x (by simp)
theorem Lm.tail {x : Nat} {xs : List Nat} (h : Lm (x :: xs)) : Lm xs := fun y hy => h y (by simp [hy])
theorem Lm.replicate (n : Nat) : Lm (List.replicate n 0) := by
  intro y hy
  rw [List.eq_of_mem_replicate hy]; decide

theorem val_append (xs ys : List Nat) : val (xs ++ ys) = val xs + 4294967296 ^ xs.length * val ys := by
  induction xs with
  | nil => simp [val]
  | cons x xs ih =>
    simp only [List.cons_append, val, ih, List.length_cons, Nat.pow_succ]
    grind
theorem val_snoc (xs : List Nat) (y : Nat) : val (xs ++ [y]) = val xs + 4294967296 ^ xs.length * y := by
  rw [val_append]; simp [val]
theorem val_replicate (n : Nat) : val (List.replicate n 0) = 0 := by
  induction n with
  | zero => rfl
  | succ n ih => simp [List.replicate_succ, val, ih]
theorem val_lt {xs : List Nat} (h : Lm xs) : val xs < 4294967296 ^ xs.length := by
  induction xs with
  | nil => simp [val]
  | cons x xs ih =>
    have h1 := ih h.tail
    have h2 := h.head
    simp only [val, List.length_cons, Nat.pow_succ]
    have : val xs + 1 ≤ 4294967296 ^ xs.length := h1
    omega
theorem val_split (xs : List Nat) (k : Nat) : val xs = val (xs.take k) + 4294967296 ^ (min k xs.length) * val (xs.drop k) := by
  have h := val_append (xs.take k) (xs.drop k)
  rw [List.take_append_drop, List.length_take] at h
  exact h
theorem val_take_succ (xs : List Nat) (k : Nat) : val (xs.take (k + 1)) = val (xs.take k) + 4294967296 ^ k * xs[k]?.getD 0 := by
  rcases Nat.lt_or_ge k xs.length with h | h
  · rw [List.take_succ_eq_append_getElem h, val_snoc, List.length_take, Nat.min_eq_left (by omega), List.getElem?_eq_getElem h]; rfl
  · rw [List.take_of_length_le (by omega), List.take_of_length_le (by omega), List.getElem?_eq_none h]; simp
theorem val_zero_all {xs : List Nat} (h : val xs = 0) : trim xs = [] := by
  induction xs with
  | nil => rfl
  | cons x xs ih =>
    simp only [val] at h
    have h1 : val xs = 0 := by omega
    have h2 : x = 0 := by omega
    simp [trim, ih h1, h2]
theorem val_trim (xs : List Nat) : val (trim xs) = val xs := by
  induction xs with
  | nil => rfl
  | cons x xs ih =>
    simp only [trim]
    split
    · rename_i hc
      rw [hc.2] at ih
      simp only [val] at ih ⊢
      omega
    · simp [val, ih]
theorem trim_nil_iff {xs : List Nat} : trim xs = [] ↔ val xs = 0 := by
  constructor
  · intro h
    rw [← val_trim, h]; rfl
  · exact val_zero_all
theorem trim_trim (xs : List Nat) : trim (trim xs) = trim xs := by
  induction xs with
  | nil => rfl
  | cons x xs ih =>
    simp only [trim]
    split
    · rfl
    · rename_i hc
      simp only [trim, ih]
      rw [if_neg hc]
theorem mem_trim {xs : List Nat} {y : Nat} (h : y ∈ trim xs) : y ∈ xs := by
  induction xs with
  | nil => exact h
  | cons x xs ih =>
    simp only [trim] at h
    split at h
    · cases h
    · rcases List.mem_cons.1 h with rfl | h
      · simp
      · simp [ih h]
theorem Lm.trim {xs : List Nat} (h : Lm xs) : Lm (trim xs) := fun y hy => h y (mem_trim hy)
theorem can_trim {xs : List Nat} (h : Lm xs) : Can (trim xs) := ⟨h.trim, trim_trim xs⟩
theorem trim_length_le (xs : List Nat) : (trim xs).length ≤ xs.length := by
  induction xs with
  | nil => simp [trim]
  | cons x xs ih =>
    simp only [trim]
    split
    · simp
    · simp only [List.length_cons]; omega
theorem trim_take (xs : List Nat) : trim xs = xs.take (trim xs).length := by
  induction xs with
  | nil => rfl
  | cons x xs ih =>
    simp only [trim]
    split
    · simp
    · simp only [List.length_cons, List.take_succ_cons, ← ih]
theorem trim_snoc_zero (xs : List Nat) : trim (xs ++ [0]) = trim xs := by
  induction xs with
  | nil => simp [trim]
  | cons x xs ih => simp only [List.cons_append, trim, ih]
theorem trim_snoc_pos (xs : List Nat) {y : Nat} (h : y ≠ 0) : trim (xs ++ [y]) = xs ++ [y] := by
  induction xs with
  | nil => simp [trim, h]
  | cons x xs ih => simp only [List.cons_append, trim, ih]; simp
/-- two lists of limbs without leading zeros that mean one number are one -/
theorem can_ext : ∀ {xs ys : List Nat}, Can xs → Can ys → val xs = val ys → xs = ys
  | [], ys, _, hy, h => by
    rw [← hy.2, val_zero_all (by simpa [val] using h.symm)]
  | xs@(_ :: _), [], hx, _, h => by
    rw [← hx.2, val_zero_all (by simpa [val] using h)]
  | x :: xs, y :: ys, hx, hy, h => by
    have tx : trim xs = xs := by
      have := hx.2; simp only [trim] at this; split at this
      · cases this
      · injection this
    have ty : trim ys = ys := by
      have := hy.2; simp only [trim] at this; split at this
      · cases this
      · injection this
    have h1 := hx.1.head
    have h2 := hy.1.head
    simp only [val] at h
    have e1 : x = y := by omega
    have e2 : val xs = val ys := by omega
    rw [e1, can_ext ⟨hx.1.tail, tx⟩ ⟨hy.1.tail, ty⟩ e2]
theorem can_nil : Can [] := ⟨Lm.nil, rfl⟩
theorem can_last {xs : List Nat} {y : Nat} (h : Can (xs ++ [y])) : y ≠ 0 := by
  rintro rfl
  have h1 := h.2
  rw [trim_snoc_zero] at h1
  have h2 := trim_length_le xs
  have h3 := congrArg List.length h1
  simp at h3
  omega
/-- a list without leading zeros is as long as its number is great -/
theorem can_len {xs : List Nat} (h : Can xs) (n : Nat) : n < xs.length ↔ 4294967296 ^ n ≤ val xs := by
  constructor
  · intro hn
    have hne : xs ≠ [] := by intro e; subst e; simp at hn
    obtain ⟨ys, y, rfl⟩ : ∃ ys y, xs = ys ++ [y] := ⟨xs.dropLast, xs.getLast hne, (List.dropLast_concat_getLast hne).symm⟩
    have hy := can_last h
    rw [val_snoc]
    have h1 : 4294967296 ^ n ≤ 4294967296 ^ ys.length := Nat.pow_le_pow_right (by decide) (by simp at hn; omega)
    have h2 : 4294967296 ^ ys.length * 1 ≤ 4294967296 ^ ys.length * y := Nat.mul_le_mul_left _ (by omega)
    omega
  · intro hn
    have h1 := val_lt h.1
    rcases Nat.lt_or_ge n xs.length with h2 | h2
    · exact h2
    · have h3 : 4294967296 ^ xs.length ≤ 4294967296 ^ n := Nat.pow_le_pow_right (by decide) h2
      omega
theorem can_len_lt {xs ys : List Nat} (hx : Can xs) (hy : Can ys) (h : xs.length < ys.length) : val xs < val ys := by
  have h1 := (can_len hy xs.length).1 h
  have h2 := val_lt hx.1
  omega
theorem val_len_lt {xs : List Nat} (hx : Lm xs) {n : Nat} (h : xs.length ≤ n) : val xs < 4294967296 ^ n := by
  have h2 := val_lt hx
  have h3 : 4294967296 ^ xs.length ≤ 4294967296 ^ n := Nat.pow_le_pow_right (by decide) h
  omega

end LM
end Go.Proofs.YtcfhiihhfcnfbaaGreatDoor

namespace Go.Proofs.YtcfhiihhfcnfbaaGreatDoor
namespace LM

theorem addTimes_step {xs ys zs : List Nat} {n k cy : Nat} (hz : zs.length = k)
    (h : val zs + 4294967296 ^ k * cy = val (xs.take k) + val (ys.take k) * n) :
    val (zs ++ [(cy + (ys[k]?.getD 0 * n + xs[k]?.getD 0)) % 4294967296]) + 4294967296 ^ (k + 1) * ((cy + (ys[k]?.getD 0 * n + xs[k]?.getD 0)) / 4294967296) = val (xs.take (k + 1)) + val (ys.take (k + 1)) * n := by
  rw [val_snoc, val_take_succ, val_take_succ, hz, Nat.pow_succ]
  generalize xs[k]?.getD 0 = x
  generalize ys[k]?.getD 0 = y
  have e := Nat.div_add_mod (cy + (y * n + x)) 4294967296
  generalize (cy + (y * n + x)) / 4294967296 = q at e ⊢
  generalize (cy + (y * n + x)) % 4294967296 = r at e ⊢
  generalize 4294967296 ^ k = P at h ⊢
  have e2 : r = cy + (y * n + x) - 4294967296 * q := by omega
  grind

theorem sumLo_lt (x y z : Nat) : (x + y + z) % 4294967296 < 4294967296 := Nat.mod_lt _ (by decide)

/-- a limb of the one, a limb of the other, and what is carried -/
theorem addTo_step {xs ys zs : List Nat} {k cy : Nat} (hz : zs.length = k)
    (h : val zs + 4294967296 ^ k * cy = val (xs.take k) + val (ys.take k)) :
    val (zs ++ [(xs[k]?.getD 0 + ys[k]?.getD 0 + cy) % 4294967296]) + 4294967296 ^ (k + 1) * ((xs[k]?.getD 0 + ys[k]?.getD 0 + cy) / 4294967296) = val (xs.take (k + 1)) + val (ys.take (k + 1)) := by
  rw [val_snoc, val_take_succ, val_take_succ, hz, Nat.pow_succ]
  generalize xs[k]?.getD 0 = x
  generalize ys[k]?.getD 0 = y
  have e := Nat.div_add_mod (x + y + cy) 4294967296
  generalize (x + y + cy) / 4294967296 = q at e ⊢
  generalize (x + y + cy) % 4294967296 = r at e ⊢
  generalize 4294967296 ^ k = P at h ⊢
  have e2 : r + 4294967296 * q = cy + (y + x) := by omega
  grind

/-- a difference and a borrow -/
theorem dif_step {x y z : Nat} (hx : x < 4294967296) (hy : y < 4294967296) (hz : z ≤ 1) :
    (x + 4294967296 - y - z) % 4294967296 + y + z = x + 4294967296 * (1 - (x + 4294967296 - y - z) / 4294967296) ∧ 1 - (x + 4294967296 - y - z) / 4294967296 ≤ 1 := by omega

/-- as often as n, the one is taken from the other -/
theorem subTimes_step {xs ys zs : List Nat} {n k cy br : Nat} (hz : zs.length = k)
    (h : val zs + val (ys.take k) * n = val (xs.take k) + 4294967296 ^ k * (cy + br)) {d b' : Nat}
    (hd : d + (cy + ys[k]?.getD 0 * n) % 4294967296 + br = xs[k]?.getD 0 + 4294967296 * b') :
    val (zs ++ [d]) + val (ys.take (k + 1)) * n = val (xs.take (k + 1)) + 4294967296 ^ (k + 1) * ((cy + ys[k]?.getD 0 * n) / 4294967296 + b') := by
  rw [val_snoc, val_take_succ, val_take_succ, hz, Nat.pow_succ]
  generalize xs[k]?.getD 0 = x at *
  generalize ys[k]?.getD 0 = y at *
  have e := Nat.div_add_mod (cy + y * n) 4294967296
  generalize (cy + y * n) / 4294967296 = q at e ⊢
  generalize (cy + y * n) % 4294967296 = r at e hd ⊢
  generalize 4294967296 ^ k = P at h ⊢
  grind
theorem Lm.snoc {xs : List Nat} {x : Nat} (h : Lm xs) (hx : x < 4294967296) : Lm (xs ++ [x]) := h.append (Lm.cons hx Lm.nil)
theorem carry_lt {c p x : Nat} (hc : c < 4294967296) (hp : p ≤ 18446744065119617025) (hx : x < 4294967296) : (c + (p + x)) / 4294967296 < 4294967296 := by omega
theorem prod_le {x y : Nat} (hx : x < 4294967296) (hy : y < 4294967296) : x * y ≤ 18446744065119617025 := by
  have := Nat.mul_le_mul (Nat.le_of_lt_succ hx : x ≤ 4294967295) (Nat.le_of_lt_succ hy : y ≤ 4294967295)
  exact this
theorem drop_cons_get (xs : List Nat) (k : Nat) (h : k < xs.length) : xs.drop k = xs[k]?.getD 0 :: xs.drop (k + 1) := by
  rw [List.drop_eq_getElem_cons h, List.getElem?_eq_getElem h]; rfl

/-- a number times another, and one more number -/
theorem timesPlus_step {xs zs : List Nat} {n m k cy : Nat} (hz : zs.length = k)
    (h : val zs + 4294967296 ^ k * cy = val (xs.take k) * n + m) :
    val (zs ++ [(cy + xs[k]?.getD 0 * n) % 4294967296]) + 4294967296 ^ (k + 1) * ((cy + xs[k]?.getD 0 * n) / 4294967296) = val (xs.take (k + 1)) * n + m := by
  rw [val_snoc, val_take_succ, hz, Nat.pow_succ]
  generalize xs[k]?.getD 0 = x
  have e := Nat.div_add_mod (cy + x * n) 4294967296
  generalize (cy + x * n) / 4294967296 = q at e ⊢
  generalize (cy + x * n) % 4294967296 = r at e ⊢
  generalize 4294967296 ^ k = P at h ⊢
  grind

end LM
end Go.Proofs.YtcfhiihhfcnfbaaGreatDoor

namespace Go.Proofs.YtcfhiihhfcnfbaaGreatDoor
open Go
namespace LM

theorem wrap_u32_small (n : Nat) (h : n < 4294967296) : IntKind.u32.wrap (n : Int) = (n : Int) := by
  rw [IntKind.wrap_u32]; omega
theorem bv32 (a : Nat) (ha : a < 4294967296) : (BitVec.ofInt 32 (a : Int)).toNat = a := by
  rw [BitVec.ofInt_natCast, BitVec.toNat_ofNat]; exact Nat.mod_eq_of_lt (by omega)
theorem b32_and (a b : Nat) (ha : a < 4294967296) (hb : b < 4294967296) : bits .and .u32 (a : Int) (b : Int) = ((a &&& b : Nat) : Int) := by
  show IntKind.u32.wrap ((BitVec.ofInt 32 (a : Int) &&& BitVec.ofInt 32 (b : Int)).toNat : Int) = _
  rw [BitVec.toNat_and, bv32 a ha, bv32 b hb, wrap_u32_small _ (Nat.and_lt_two_pow (n := 32) _ hb)]
theorem b32_or (a b : Nat) (ha : a < 4294967296) (hb : b < 4294967296) : bits .or .u32 (a : Int) (b : Int) = ((a ||| b : Nat) : Int) := by
  show IntKind.u32.wrap ((BitVec.ofInt 32 (a : Int) ||| BitVec.ofInt 32 (b : Int)).toNat : Int) = _
  rw [BitVec.toNat_or, bv32 a ha, bv32 b hb, wrap_u32_small _ (Nat.or_lt_two_pow (n := 32) ha hb)]
theorem b32_xor (a b : Nat) (ha : a < 4294967296) (hb : b < 4294967296) : bits .xor .u32 (a : Int) (b : Int) = ((a ^^^ b : Nat) : Int) := by
  show IntKind.u32.wrap ((BitVec.ofInt 32 (a : Int) ^^^ BitVec.ofInt 32 (b : Int)).toNat : Int) = _
  rw [BitVec.toNat_xor, bv32 a ha, bv32 b hb, wrap_u32_small _ (Nat.xor_lt_two_pow (n := 32) ha hb)]
theorem hi_bit (n : Nat) (h : n < 4294967296) : n / 2147483648 = if n.testBit 31 then 1 else 0 := by
  rw [Nat.testBit_eq_decide_div_mod_eq]
  by_cases h1 : n / 2 ^ 31 % 2 = 1
  · simp only [h1, decide_true, if_true]; omega
  · simp only [h1, decide_false, Bool.false_eq_true, if_false]; omega
theorem hi_iff (n : Nat) (h : n < 4294967296) : n.testBit 31 = decide (2147483648 ≤ n) := by
  rw [Nat.testBit_eq_decide_div_mod_eq]
  by_cases h1 : 2147483648 ≤ n
  · rw [decide_eq_true h1, decide_eq_true]; omega
  · rw [decide_eq_false h1, decide_eq_false]; omega

theorem max_u32 : IntKind.u32.max = ((4294967295 : Nat) : Int) := by rfl

theorem borrow32 (x y z : Nat) (hx : x < 4294967296) (hy : y < 4294967296) (hz : z ≤ 1) :
    bits BinOp.or IntKind.u32 (bits BinOp.and IntKind.u32 (bits BinOp.xor IntKind.u32 IntKind.u32.max (x : Int)) (y : Int))
      (bits BinOp.and IntKind.u32 (bits BinOp.xor IntKind.u32 IntKind.u32.max (bits BinOp.xor IntKind.u32 (x : Int) (y : Int))) (((x : Int) - y - z) % 4294967296)) / 2147483648
      = ((1 - (x + 4294967296 - y - z) / 4294967296 : Nat) : Int) := by
  obtain ⟨d, hd, hdd⟩ : ∃ d : Nat, ((x : Int) - y - z) % 4294967296 = (d : Int) ∧ d = (x + 4294967296 - y - z) % 4294967296 := ⟨_, by omega, rfl⟩
  have hd1 : d < 4294967296 := by omega
  have k1 : 4294967295 ^^^ x < 4294967296 := Nat.xor_lt_two_pow (n := 32) (by decide) hx
  have k2 : x ^^^ y < 4294967296 := Nat.xor_lt_two_pow (n := 32) hx hy
  have k3 : 4294967295 ^^^ (x ^^^ y) < 4294967296 := Nat.xor_lt_two_pow (n := 32) (by decide) k2
  have k4 : (4294967295 ^^^ x) &&& y < 4294967296 := Nat.and_lt_two_pow (n := 32) _ hy
  have k5 : (4294967295 ^^^ (x ^^^ y)) &&& d < 4294967296 := Nat.and_lt_two_pow (n := 32) _ hd1
  have k6 : ((4294967295 ^^^ x) &&& y) ||| ((4294967295 ^^^ (x ^^^ y)) &&& d) < 4294967296 := Nat.or_lt_two_pow (n := 32) k4 k5
  rw [hd, max_u32, b32_xor _ _ (by decide) hx, b32_and _ _ k1 hy, b32_xor _ _ hx hy, b32_xor _ _ (by decide) k2, b32_and _ _ k3 hd1, b32_or _ _ k4 k5]
  have e := hi_bit _ k6
  rw [Nat.testBit_or, Nat.testBit_and, Nat.testBit_and, Nat.testBit_xor, Nat.testBit_xor, Nat.testBit_xor, hi_iff x hx, hi_iff y hy, hi_iff d hd1, show (4294967295 : Nat).testBit 31 = true from by decide] at e
  generalize ((4294967295 ^^^ x) &&& y) ||| ((4294967295 ^^^ (x ^^^ y)) &&& d) = m at e k6 ⊢
  by_cases c1 : 2147483648 ≤ x <;> by_cases c2 : 2147483648 ≤ y <;> by_cases c3 : 2147483648 ≤ d <;> simp [c1, c2, c3] at e <;> omega

end LM
end Go.Proofs.YtcfhiihhfcnfbaaGreatDoor

namespace Go.Proofs.YtcfhiihhfcnfbaaGreatDoor
open Go
namespace LM

theorem pow_split {n : Nat} (hn : n < 32) : 2 ^ (32 - n) * 2 ^ n = 4294967296 := by
  rw [← Nat.pow_add, show 32 - n + n = 32 from by omega]
theorem up_mod (x : Nat) {n : Nat} (hn : n < 32) : x * 2 ^ n % 4294967296 = (x % 2 ^ (32 - n)) * 2 ^ n := by
  rw [← pow_split hn, Nat.mul_mod_mul_right]
theorem up_div (x : Nat) {n : Nat} (hn : n < 32) : x * 2 ^ n / 4294967296 = x / 2 ^ (32 - n) := by
  rw [← pow_split hn, Nat.mul_div_mul_right _ _ (Nat.pow_pos (by decide))]
theorem low_lt {y n : Nat} (hn : n < 32) (hy : y < 4294967296) : y / 2 ^ (32 - n) < 2 ^ n := by
  rw [Nat.div_lt_iff_lt_mul (Nat.pow_pos (by decide)), Nat.mul_comm, pow_split hn]; exact hy
theorem or_up (x y : Nat) {n : Nat} (hn : n < 32) (hy : y < 4294967296) : (x * 2 ^ n % 4294967296) ||| (y / 2 ^ (32 - n)) = x * 2 ^ n % 4294967296 + y / 2 ^ (32 - n) := by
  rw [up_mod x hn, ← Nat.shiftLeft_eq, Nat.shiftLeft_add_eq_or_of_lt (low_lt hn hy)]
theorem sum_lt (x y : Nat) {n : Nat} (hn : n < 32) (hy : y < 4294967296) : x * 2 ^ n % 4294967296 + y / 2 ^ (32 - n) < 4294967296 := by
  have h := or_up x y hn hy
  rw [← h]
  exact Nat.or_lt_two_pow (n := 32) (Nat.mod_lt _ (by decide)) (Nat.lt_of_le_of_lt (Nat.div_le_self _ _) hy)
theorem wrap_up (x n : Nat) : IntKind.u32.wrap ((x : Int) * 2 ^ n) = ((x * 2 ^ n % 4294967296 : Nat) : Int) := by
  rw [IntKind.wrap_u32]
  simp
theorem cast_div (y n : Nat) : (y : Int) / 2 ^ n = ((y / 2 ^ n : Nat) : Int) := by simp
theorem up_limb (x y : Nat) {n : Nat} (hn : n < 32) (hy : y < 4294967296) :
    bits BinOp.or IntKind.u32 (IntKind.u32.wrap ((x : Int) * 2 ^ n)) ((y : Int) / 2 ^ (32 - n)) = ((x * 2 ^ n % 4294967296 + y / 2 ^ (32 - n) : Nat) : Int) := by
  rw [wrap_up, cast_div, b32_or _ _ (Nat.mod_lt _ (by decide)) (Nat.lt_of_le_of_lt (Nat.div_le_self _ _) hy), or_up x y hn hy]
theorem up_step {xs zs : List Nat} {n k y : Nat} (hn : n < 32) (hz : zs.length = k) (h : val zs + 4294967296 ^ k * (y / 2 ^ (32 - n)) = val (xs.take k) * 2 ^ n) :
    val (zs ++ [xs[k]?.getD 0 * 2 ^ n % 4294967296 + y / 2 ^ (32 - n)]) + 4294967296 ^ (k + 1) * (xs[k]?.getD 0 / 2 ^ (32 - n)) = val (xs.take (k + 1)) * 2 ^ n := by
  rw [val_snoc, val_take_succ, hz, Nat.pow_succ, ← up_div (xs[k]?.getD 0) hn]
  generalize xs[k]?.getD 0 = x
  have e := Nat.div_add_mod (x * 2 ^ n) 4294967296
  generalize x * 2 ^ n / 4294967296 = q at e ⊢
  generalize x * 2 ^ n % 4294967296 = r at e ⊢
  generalize y / 2 ^ (32 - n) = t at h ⊢
  generalize 4294967296 ^ k = P at h ⊢
  generalize 2 ^ n = N at *
  grind

theorem down_mod (x : Nat) {n : Nat} (hn : n < 32) : x * 2 ^ (32 - n) % 4294967296 = (x % 2 ^ n) * 2 ^ (32 - n) := by
  rw [← pow_split hn, Nat.mul_comm (2 ^ (32 - n)) (2 ^ n), Nat.mul_mod_mul_right]
theorem high_lt {x n : Nat} (hn : n < 32) (hx : x < 4294967296) : x / 2 ^ n < 2 ^ (32 - n) := by
  rw [Nat.div_lt_iff_lt_mul (Nat.pow_pos (by decide)), pow_split hn]; exact hx
theorem or_down (x y : Nat) {n : Nat} (hn : n < 32) (hx : x < 4294967296) : (x / 2 ^ n) ||| (y * 2 ^ (32 - n) % 4294967296) = y * 2 ^ (32 - n) % 4294967296 + x / 2 ^ n := by
  rw [Nat.or_comm, down_mod y hn, ← Nat.shiftLeft_eq, Nat.shiftLeft_add_eq_or_of_lt (high_lt hn hx)]
theorem down_lt (x y : Nat) {n : Nat} (hn : n < 32) (hx : x < 4294967296) : y * 2 ^ (32 - n) % 4294967296 + x / 2 ^ n < 4294967296 := by
  have h := or_down x y hn hx
  rw [← h]
  exact Nat.or_lt_two_pow (n := 32) (Nat.lt_of_le_of_lt (Nat.div_le_self _ _) hx) (Nat.mod_lt _ (by decide))
theorem down_limb (x y : Nat) {n : Nat} (hn : n < 32) (hx : x < 4294967296) :
    bits BinOp.or IntKind.u32 ((x : Int) / 2 ^ n) (IntKind.u32.wrap ((y : Int) * 2 ^ (32 - n))) = ((y * 2 ^ (32 - n) % 4294967296 + x / 2 ^ n : Nat) : Int) := by
  rw [wrap_up, cast_div, b32_or _ _ (Nat.lt_of_le_of_lt (Nat.div_le_self _ _) hx) (Nat.mod_lt _ (by decide)), or_down x y hn hx]
theorem down_step {xs zs : List Nat} {n k c : Nat} (hn : n < 32) (hz : zs.length = k) (h : val zs * 2 ^ n + c = val (xs.take k) + 4294967296 ^ k * (xs[k]?.getD 0 % 2 ^ n)) :
    val (zs ++ [xs[k + 1]?.getD 0 * 2 ^ (32 - n) % 4294967296 + xs[k]?.getD 0 / 2 ^ n]) * 2 ^ n + c = val (xs.take (k + 1)) + 4294967296 ^ (k + 1) * (xs[k + 1]?.getD 0 % 2 ^ n) := by
  rw [val_snoc, val_take_succ, hz, Nat.pow_succ, down_mod _ hn]
  generalize xs[k]?.getD 0 = x at *
  generalize xs[k + 1]?.getD 0 = y at *
  have e := Nat.div_add_mod x (2 ^ n)
  have e2 := pow_split hn
  generalize x / 2 ^ n = q at *
  generalize x % 2 ^ n = r at *
  generalize y % 2 ^ n = t at *
  generalize 4294967296 ^ k = P at *
  generalize 2 ^ n = N at *
  generalize 2 ^ (32 - n) = M at *
  grind

end LM
end Go.Proofs.YtcfhiihhfcnfbaaGreatDoor

namespace Go.Proofs.YtcfhiihhfcnfbaaGreatDoor
open Go
namespace LM

def highOf (xs : List Nat) (n : Nat) : Nat := xs[n]?.getD 0 * 4294967296 + xs[n - 1]?.getD 0
def guessOf (xs ys : List Nat) (n : Nat) : Nat := min (highOf xs n / ys[n - 1]?.getD 0) 4294967295

theorem guess_ge {xs ys : List Nat} {n : Nat} (hx : Lm xs) (hxl : xs.length = n + 1) (hyl : ys.length = n) (hn : 0 < n) (hy : ys[n - 1]?.getD 0 ≠ 0)
    (h : val xs < val ys * 4294967296) : val xs < val ys * (guessOf xs ys n + 1) := by
  unfold guessOf
  rcases Nat.le_total (highOf xs n / ys[n - 1]?.getD 0) 4294967295 with h1 | h1
  · rw [Nat.min_eq_left h1]
    obtain ⟨m, rfl⟩ : ∃ m, n = m + 1 := ⟨n - 1, by omega⟩
    simp only [Nat.add_sub_cancel] at *
    have ex : val xs = val (xs.take m) + 4294967296 ^ m * highOf xs (m + 1) := by
      have e1 := val_take_succ xs m
      have e2 := val_take_succ xs (m + 1)
      rw [List.take_of_length_le (by omega : xs.length ≤ m + 1 + 1)] at e2
      rw [e2, e1, highOf, Nat.pow_succ, Nat.add_sub_cancel]
      grind
    have ey : val ys = val (ys.take m) + 4294967296 ^ m * ys[m]?.getD 0 := by
      have e1 := val_take_succ ys m
      rwa [List.take_of_length_le (by omega : ys.length ≤ m + 1)] at e1
    have hl : val (xs.take m) < 4294967296 ^ m := val_len_lt (hx.take m) (by simp; omega)
    generalize highOf xs (m + 1) = H at *
    generalize ys[m]?.getD 0 = t at *
    generalize 4294967296 ^ m = P at *
    have hd : H < t * (H / t + 1) := by
      have := Nat.lt_div_mul_add (a := H) (b := t) (by omega)
      rw [Nat.mul_add, Nat.mul_one, Nat.mul_comm]; exact this
    generalize H / t = q at *
    have h2 : P * (H + 1) ≤ P * (t * (q + 1)) := Nat.mul_le_mul_left _ hd
    have h3 : P * t * (q + 1) ≤ val ys * (q + 1) := Nat.mul_le_mul_right _ (by omega)
    rw [Nat.mul_assoc] at h3
    rw [Nat.mul_add, Nat.mul_one] at h2
    omega
  · rw [Nat.min_eq_right h1]; exact h
theorem guess_lt (xs ys : List Nat) (n : Nat) : guessOf xs ys n < 4294967296 := by unfold guessOf; omega

theorem or_high {x y : Nat} (hx : x < 4294967296) (hy : y < 4294967296) : bits .or .u64 ((x : Int) * 4294967296) (y : Int) = ((x * 4294967296 + y : Nat) : Int) := by
  rw [show ((x : Int) * 4294967296) = ((x * 4294967296 : Nat) : Int) from by simp, bits_or_u64_nat _ _ (by omega) (by omega)]
  congr 1
  have := Nat.shiftLeft_add_eq_or_of_lt (b := y) (i := 32) (by omega) x
  rw [Nat.shiftLeft_eq] at this
  exact this.symm

end LM
end Go.Proofs.YtcfhiihhfcnfbaaGreatDoor

namespace Go.Proofs.YtcfhiihhfcnfbaaGreatDoor
namespace LM

/-- the piece of the rest in which one limb of the quotient is sought -/
theorem win_val {cur : List Nat} {i n D : Nat} (hL : Lm cur) (hlen : i + n + 1 ≤ cur.length) (hd : val (cur.drop (i + 1)) < D) (hD : D ≤ 4294967296 ^ n) :
    val ((cur.drop i).take (n + 1)) = val (cur.drop i) ∧ val (cur.drop (i + n + 1)) = 0 ∧ val (cur.drop i) < D * 4294967296 := by
  have e1 := val_split (cur.drop (i + 1)) n
  rw [List.length_drop, Nat.min_eq_left (by omega), List.drop_drop, show i + 1 + n = i + n + 1 from by omega] at e1
  have h0 : val (cur.drop (i + n + 1)) = 0 := by
    rcases Nat.eq_zero_or_pos (val (cur.drop (i + n + 1))) with h | h
    · exact h
    · have := Nat.mul_le_mul_left (4294967296 ^ n) h
      omega
  have e2 := val_split (cur.drop i) (n + 1)
  rw [List.drop_drop, show i + (n + 1) = i + n + 1 from by omega, h0, Nat.mul_zero, Nat.add_zero] at e2
  refine ⟨e2.symm, h0, ?_⟩
  rw [drop_cons_get cur i (by omega), val]
  have := hL.get i
  have h3 := Nat.mul_le_mul_left 4294967296 hd
  omega

/-- one limb of the quotient has been found -/
theorem div_round {cur zs qs : List Nat} {i n D q R : Nat} (hlen : i + n + 1 ≤ cur.length) (hz : zs.length = n + 1) (h0 : val (cur.drop (i + n + 1)) = 0) (hw : val ((cur.drop i).take (n + 1)) = val (cur.drop i))
    (hR : R = val cur + D * 4294967296 ^ (i + 1) * val qs) (hv : val zs + D * q = val ((cur.drop i).take (n + 1))) :
    R = val (cur.take i ++ zs ++ cur.drop (i + n + 1)) + D * 4294967296 ^ i * val (q :: qs) ∧ val ((cur.take i ++ zs ++ cur.drop (i + n + 1)).drop i) = val zs ∧ (cur.take i ++ zs ++ cur.drop (i + n + 1)).length = cur.length := by
  have hi : (cur.take i).length = i := by simp; omega
  refine ⟨?_, ?_, by simp; omega⟩
  · have e1 := val_split cur i
    rw [Nat.min_eq_left (by omega)] at e1
    rw [List.append_assoc, val_append, val_append, h0, hi, Nat.mul_zero, Nat.add_zero, val]
    rw [hw] at hv
    rw [Nat.pow_succ] at hR
    generalize 4294967296 ^ i = P at *
    grind
  · rw [List.append_assoc, List.drop_left' hi, val_append, h0, Nat.mul_zero, Nat.add_zero]

/-- the end: shifted back, the rest is the rest -/
theorem div_end {x y s c Q z t : Nat} (hR : x * 2 ^ s = c + y * 2 ^ s * Q) (hc : c < y * 2 ^ s) (hz : z * 2 ^ s + t = c) (ht : t < 2 ^ s) : Q = x / y ∧ z = x % y := by
  have hN : 0 < 2 ^ s := Nat.pow_pos (by decide)
  have e1 : x * 2 ^ s = (z + y * Q) * 2 ^ s + t := by rw [hR, ← hz]; grind
  have e2 : x = z + y * Q := by
    have h1 := congrArg (· / 2 ^ s) e1
    simp only [Nat.mul_div_cancel _ hN] at h1
    rw [Nat.add_comm, Nat.add_mul_div_right _ _ hN, Nat.div_eq_of_lt ht, Nat.zero_add] at h1
    exact h1
  have hzy : z < y := by
    rcases Nat.lt_or_ge z y with h | h
    · exact h
    · have := Nat.mul_le_mul_right (2 ^ s) h
      omega
  constructor
  · rw [e2, Nat.add_mul_div_left _ _ (by omega), Nat.div_eq_of_lt hzy, Nat.zero_add]
  · rw [e2, Nat.add_mul_mod_self_left, Nat.mod_eq_of_lt hzy]

/-- the divisor, shifted up till its highest bit is set, is as long as it was -/
theorem shifted_len {ys zs : List Nat} {s : Nat} (hs : s < 32) (hy : Can ys) (hz : Can zs) (hn : 0 < ys.length) (hv : val zs = val ys * 2 ^ s) (ht : ys[ys.length - 1]?.getD 0 * 2 ^ s < 4294967296) : zs.length = ys.length := by
  have hle : ys.length ≤ zs.length := by
    rcases Nat.lt_or_ge zs.length ys.length with h | h
    · have h1 := can_len_lt hz hy h
      have h2 : val ys * 1 ≤ val ys * 2 ^ s := Nat.mul_le_mul_left _ (Nat.pow_pos (by decide))
      omega
    · exact h
  rcases Nat.lt_or_ge ys.length zs.length with h | h
  · have h1 := (can_len hz ys.length).1 h
    obtain ⟨m, hm⟩ : ∃ m, ys.length = m + 1 := ⟨ys.length - 1, by omega⟩
    have e1 := val_take_succ ys m
    rw [List.take_of_length_le (by omega)] at e1
    rw [hm, Nat.add_sub_cancel] at ht
    have e2 := val_len_lt (hy.1.take m) (n := m) (by simp; omega)
    rw [hv, hm, e1, Nat.pow_succ] at h1
    generalize ys[m]?.getD 0 = t at *
    generalize 4294967296 ^ m = P at *
    have hMN := pow_split hs
    have hNp : 0 < 2 ^ s := Nat.pow_pos (by decide)
    generalize 2 ^ s = N at *
    generalize 2 ^ (32 - s) = M at *
    have h5 : t + 1 ≤ M := by
      rw [← hMN] at ht
      exact Nat.lt_of_mul_lt_mul_right ht
    have h6 : (val (ys.take m) + P * t) + 1 ≤ P * (t + 1) := by rw [Nat.mul_add, Nat.mul_one]; omega
    have h7 := Nat.mul_le_mul_right N h6
    have h8 := Nat.mul_le_mul_left P (Nat.mul_le_mul_right N h5)
    rw [hMN, ← Nat.mul_assoc] at h8
    rw [Nat.add_mul, Nat.one_mul] at h7
    omega
  · omega

end LM
end Go.Proofs.YtcfhiihhfcnfbaaGreatDoor

namespace Go.Proofs.YtcfhiihhfcnfbaaGreatDoor
namespace LM

def bitAt (xs : List Nat) (n : Nat) : Nat := xs[n / 32]?.getD 0 / 2 ^ (n % 32) % 2

theorem val_div_limb {xs : List Nat} (hx : Lm xs) (q : Nat) (hq : q < xs.length) : val xs / 4294967296 ^ q = xs[q]?.getD 0 + 4294967296 * val (xs.drop (q + 1)) := by
  have e := val_split xs q
  rw [Nat.min_eq_left (by omega), drop_cons_get xs q hq, val] at e
  have h := val_len_lt (hx.take q) (n := q) (by simp; omega)
  rw [e, Nat.add_mul_div_left _ _ (Nat.pow_pos (by decide)), Nat.div_eq_of_lt h, Nat.zero_add]

theorem bit_val {xs : List Nat} (hx : Lm xs) {n : Nat} (hn : n < 32 * xs.length) : val xs / 2 ^ n = 2 * (val xs / 2 ^ (n + 1)) + bitAt xs n := by
  have hq : n / 32 < xs.length := by omega
  have hr : n % 32 < 32 := Nat.mod_lt _ (by decide)
  have hp : (2 : Nat) ^ n = 4294967296 ^ (n / 32) * 2 ^ (n % 32) := by
    rw [show (4294967296 : Nat) = 2 ^ 32 from rfl, ← Nat.pow_mul, ← Nat.pow_add, Nat.div_add_mod]
  have e1 : val xs / 2 ^ n = xs[n / 32]?.getD 0 / 2 ^ (n % 32) + 2 ^ (32 - n % 32) * val (xs.drop (n / 32 + 1)) := by
    rw [hp, ← Nat.div_div_eq_div_mul, val_div_limb hx _ hq]
    have hs := pow_split hr
    rw [← hs, Nat.mul_comm (2 ^ (32 - n % 32)) (2 ^ (n % 32)), Nat.mul_assoc, Nat.add_mul_div_left _ _ (Nat.pow_pos (by decide))]
  have e2 : val xs / 2 ^ (n + 1) = val xs / 2 ^ n / 2 := by rw [Nat.pow_succ, Nat.div_div_eq_div_mul]
  have e3 : val xs / 2 ^ n % 2 = bitAt xs n := by
    rw [e1, bitAt]
    obtain ⟨m, hm⟩ : ∃ m, 32 - n % 32 = m + 1 := ⟨31 - n % 32, by omega⟩
    rw [hm, Nat.pow_succ, Nat.mul_comm (2 ^ m) 2, Nat.mul_assoc, Nat.add_mul_mod_self_left]
  rw [e2, ← e3]
  omega
theorem bit_top {xs : List Nat} (hx : Lm xs) : val xs / 2 ^ (32 * xs.length) = 0 := by
  refine Nat.div_eq_of_lt ?_
  rw [Nat.pow_mul]
  exact val_lt hx
theorem bit_le (xs : List Nat) (n : Nat) : bitAt xs n ≤ 1 := by unfold bitAt; omega

/-- one bit of the long division -/
theorem split_step {x y q r : Nat} {b : Nat} (h : x = y * q + r) (hr : r < y) (hb : b ≤ 1) :
    (y ≤ 2 * r + b → 2 * x + b = y * (2 * q + 1) + (2 * r + b - y) ∧ 2 * r + b - y < y) ∧ (2 * r + b < y → 2 * x + b = y * (2 * q) + (2 * r + b)) := by
  constructor
  · intro h1
    refine ⟨?_, by omega⟩
    have e : y * (2 * q + 1) = 2 * (y * q) + y := by grind
    rw [e]; omega
  · intro _
    have e : y * (2 * q) = 2 * (y * q) := by grind
    rw [e]; omega

end LM
end Go.Proofs.YtcfhiihhfcnfbaaGreatDoor
