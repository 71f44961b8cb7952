/- Plain mathematics of limb lists: what a list of limbs means, and that a list without leading zeros is settled by its number. -/
import Derived.Below
namespace Go.Proofs.YtkkogmgboehfdaaDoor
namespace LM

def val : List Nat → Nat
  | [] => 0
  | x :: xs => x + 4294967296 * val xs

def Lm (xs : List Nat) : Prop := ∀ x ∈ xs, x < 4294967296

def trim : List Nat → List Nat
  | [] => []
  | x :: xs => if x = 0 ∧ trim xs = [] then [] else x :: trim xs

def Can (xs : List Nat) : Prop := Lm xs ∧ trim xs = xs

theorem Lm.nil : Lm [] := by intro x h; cases h
theorem Lm.cons {x : Nat} {xs : List Nat} (h : x < 4294967296) (hs : Lm xs) : Lm (x :: xs) := by
  intro y hy
  rcases List.mem_cons.1 hy with rfl | hy
  · exact h
  · exact hs y hy
theorem Lm.append {xs ys : List Nat} (h : Lm xs) (k : Lm ys) : Lm (xs ++ ys) := by
  intro y hy
  rcases List.mem_append.1 hy with hy | hy
  · exact h y hy
  · exact k y hy
theorem Lm.take {xs : List Nat} (h : Lm xs) (n : Nat) : Lm (xs.take n) := fun y hy => h y (List.mem_of_mem_take hy)
theorem Lm.drop {xs : List Nat} (h : Lm xs) (n : Nat) : Lm (xs.drop n) := fun y hy => h y (List.mem_of_mem_drop hy)
theorem Lm.get {xs : List Nat} (h : Lm xs) (i : Nat) : xs[i]?.getD 0 < 4294967296 := by
  rcases Nat.lt_or_ge i xs.length with hi | hi
  · rw [List.getElem?_eq_getElem hi]; exact h _ (List.getElem_mem hi)
  · rw [List.getElem?_eq_none hi]; decide
theorem Lm.head {x : Nat} {xs : List Nat} (h : Lm (x :: xs)) : x < 4294967296 := h x (by simp)
theorem Lm.tail {x : Nat} {xs : List Nat} (h : Lm (x :: xs)) : Lm xs := fun y hy => h y (by simp [hy])
theorem Lm.replicate (n : Nat) : Lm (List.replicate n 0) := by
  intro y hy
  rw [List.eq_of_mem_replicate hy]; decide

theorem val_append (xs ys : List Nat) : val (xs ++ ys) = val xs + 4294967296 ^ xs.length * val ys := by
  induction xs with
  | nil => simp [val]
  | cons x xs ih =>
    simp only [List.cons_append, val, ih, List.length_cons, Nat.pow_succ]
    grind
theorem val_snoc (xs : List Nat) (y : Nat) : val (xs ++ [y]) = val xs + 4294967296 ^ xs.length * y := by
  rw [val_append]; simp [val]
theorem val_replicate (n : Nat) : val (List.replicate n 0) = 0 := by
  induction n with
  | zero => rfl
  | succ n ih => simp [List.replicate_succ, val, ih]
theorem val_lt {xs : List Nat} (h : Lm xs) : val xs < 4294967296 ^ xs.length := by
  induction xs with
  | nil => simp [val]
  | cons x xs ih =>
    have h1 := ih h.tail
    have h2 := h.head
    simp only [val, List.length_cons, Nat.pow_succ]
    have : val xs + 1 ≤ 4294967296 ^ xs.length := h1
    omega
theorem val_split (xs : List Nat) (k : Nat) : val xs = val (xs.take k) + 4294967296 ^ (min k xs.length) * val (xs.drop k) := by
  have h := val_append (xs.take k) (xs.drop k)
  rw [List.take_append_drop, List.length_take] at h
  exact h
theorem val_take_succ (xs : List Nat) (k : Nat) : val (xs.take (k + 1)) = val (xs.take k) + 4294967296 ^ k * xs[k]?.getD 0 := by
  rcases Nat.lt_or_ge k xs.length with h | h
  · rw [List.take_succ_eq_append_getElem h, val_snoc, List.length_take, Nat.min_eq_left (by omega), List.getElem?_eq_getElem h]; rfl
  · rw [List.take_of_length_le (by omega), List.take_of_length_le (by omega), List.getElem?_eq_none h]; simp
theorem val_zero_all {xs : List Nat} (h : val xs = 0) : trim xs = [] := by
  induction xs with
  | nil => rfl
  | cons x xs ih =>
    simp only [val] at h
    have h1 : val xs = 0 := by omega
    have h2 : x = 0 := by omega
    simp [trim, ih h1, h2]
theorem val_trim (xs : List Nat) : val (trim xs) = val xs := by
  induction xs with
  | nil => rfl
  | cons x xs ih =>
    simp only [trim]
    split
    · rename_i hc
      rw [hc.2] at ih
      simp only [val] at ih ⊢
      omega
    · simp [val, ih]
theorem trim_nil_iff {xs : List Nat} : trim xs = [] ↔ val xs = 0 := by
  constructor
  · intro h
    rw [← val_trim, h]; rfl
  · exact val_zero_all
theorem trim_trim (xs : List Nat) : trim (trim xs) = trim xs := by
  induction xs with
  | nil => rfl
  | cons x xs ih =>
    simp only [trim]
    split
    · rfl
    · rename_i hc
      simp only [trim, ih]
      rw [if_neg hc]
theorem mem_trim {xs : List Nat} {y : Nat} (h : y ∈ trim xs) : y ∈ xs := by
  induction xs with
  | nil => exact h
  | cons x xs ih =>
    simp only [trim] at h
    split at h
    · cases h
    · rcases List.mem_cons.1 h with rfl | h
      · simp
      · simp [ih h]
theorem Lm.trim {xs : List Nat} (h : Lm xs) : Lm (trim xs) := fun y hy => h y (mem_trim hy)
theorem can_trim {xs : List Nat} (h : Lm xs) : Can (trim xs) := ⟨h.trim, trim_trim xs⟩
theorem trim_length_le (xs : List Nat) : (trim xs).length ≤ xs.length := by
  induction xs with
  | nil => simp [trim]
  | cons x xs ih =>
    simp only [trim]
    split
    · simp
    · simp only [List.length_cons]; omega
theorem trim_take (xs : List Nat) : trim xs = xs.take (trim xs).length := by
  induction xs with
  | nil => rfl
  | cons x xs ih =>
    simp only [trim]
    split
    · simp
    · simp only [List.length_cons, List.take_succ_cons, ← ih]
theorem trim_snoc_zero (xs : List Nat) : trim (xs ++ [0]) = trim xs := by
  induction xs with
  | nil => simp [trim]
  | cons x xs ih => simp only [List.cons_append, trim, ih]
theorem trim_snoc_pos (xs : List Nat) {y : Nat} (h : y ≠ 0) : trim (xs ++ [y]) = xs ++ [y] := by
  induction xs with
  | nil => simp [trim, h]
  | cons x xs ih => simp only [List.cons_append, trim, ih]; simp
/-- two lists of limbs without leading zeros that mean one number are one -/
theorem can_ext : ∀ {xs ys : List Nat}, Can xs → Can ys → val xs = val ys → xs = ys
  | [], ys, _, hy, h => by
    rw [← hy.2, val_zero_all (by simpa [val] using h.symm)]
  | xs@(_ :: _), [], hx, _, h => by
    rw [← hx.2, val_zero_all (by simpa [val] using h)]
  | x :: xs, y :: ys, hx, hy, h => by
    have tx : trim xs = xs := by
      have := hx.2; simp only [trim] at this; split at this
      · cases this
      · injection this
    have ty : trim ys = ys := by
      have := hy.2; simp only [trim] at this; split at this
      · cases this
      · injection this
    have h1 := hx.1.head
    have h2 := hy.1.head
    simp only [val] at h
    have e1 : x = y := by omega
    have e2 : val xs = val ys := by omega
    rw [e1, can_ext ⟨hx.1.tail, tx⟩ ⟨hy.1.tail, ty⟩ e2]
theorem can_nil : Can [] := ⟨Lm.nil, rfl⟩
theorem can_last {xs : List Nat} {y : Nat} (h : Can (xs ++ [y])) : y ≠ 0 := by
  rintro rfl
  have h1 := h.2
  rw [trim_snoc_zero] at h1
  have h2 := trim_length_le xs
  have h3 := congrArg List.length h1
  simp at h3
  omega
/-- a list without leading zeros is as long as its number is great -/
theorem can_len {xs : List Nat} (h : Can xs) (n : Nat) : n < xs.length ↔ 4294967296 ^ n ≤ val xs := by
  constructor
  · intro hn
    have hne : xs ≠ [] := by intro e; subst e; simp at hn
    obtain ⟨ys, y, rfl⟩ : ∃ ys y, xs = ys ++ [y] := ⟨xs.dropLast, xs.getLast hne, (List.dropLast_concat_getLast hne).symm⟩
    have hy := can_last h
    rw [val_snoc]
    have h1 : 4294967296 ^ n ≤ 4294967296 ^ ys.length := Nat.pow_le_pow_right (by decide) (by simp at hn; omega)
    have h2 : 4294967296 ^ ys.length * 1 ≤ 4294967296 ^ ys.length * y := Nat.mul_le_mul_left _ (by omega)
    omega
  · intro hn
    have h1 := val_lt h.1
    rcases Nat.lt_or_ge n xs.length with h2 | h2
    · exact h2
    · have h3 : 4294967296 ^ xs.length ≤ 4294967296 ^ n := Nat.pow_le_pow_right (by decide) h2
      omega
theorem can_len_lt {xs ys : List Nat} (hx : Can xs) (hy : Can ys) (h : xs.length < ys.length) : val xs < val ys := by
  have h1 := (can_len hy xs.length).1 h
  have h2 := val_lt hx.1
  omega
theorem val_len_lt {xs : List Nat} (hx : Lm xs) {n : Nat} (h : xs.length ≤ n) : val xs < 4294967296 ^ n := by
  have h2 := val_lt hx
  have h3 : 4294967296 ^ xs.length ≤ 4294967296 ^ n := Nat.pow_le_pow_right (by decide) h
  omega

end LM
end Go.Proofs.YtkkogmgboehfdaaDoor
