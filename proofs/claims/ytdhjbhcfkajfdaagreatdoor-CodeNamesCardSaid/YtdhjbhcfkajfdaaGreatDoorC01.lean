/- Texts of floating numbers: which bytes stand where; what the library makes of their digits, as functions. -/
import Derived.Below
import Derived.Laws.Bits64
import Derived.WalkKit
import Derived.Laws.Bits64b
namespace Go.Proofs.YtdhjbhcfkajfdaaGreatDoor
namespace LM

def val : List Nat → Nat
  | [] => 0
  | x :: xs => x + 4294967296 * val xs

def Lm (xs : List Nat) : Prop := ∀ x ∈ xs, x < 4294967296

def trim : List Nat → List Nat
  | [] => []
  | x :: xs => if x = 0 ∧ trim xs = [] then [] else x :: trim xs

def Can (xs : List Nat) : Prop := Lm xs ∧ trim xs = xs

theorem Lm.take {xs : List Nat} (h : Lm xs) (n : Nat) : Lm (xs.take n) := fun y hy => h y (List.mem_of_mem_take hy)
theorem Lm.head {x : Nat} {xs : List Nat} (h : Lm (x :: xs)) : x < 4294967296 := h x (by simp)
theorem Lm.tail {x : Nat} {xs : List Nat} (h : Lm (x :: xs)) : Lm xs := fun y hy => h y (by simp [hy])
theorem val_append (xs ys : List Nat) : val (xs ++ ys) = val xs + 4294967296 ^ xs.length * val ys := by
  induction xs with
  | nil => simp [val]
  | cons x xs ih =>
    simp only [List.cons_append, val, ih, List.length_cons, Nat.pow_succ]
    grind
theorem val_snoc (xs : List Nat) (y : Nat) : val (xs ++ [y]) = val xs + 4294967296 ^ xs.length * y := by
  rw [val_append]; simp [val]
theorem val_lt {xs : List Nat} (h : Lm xs) : val xs < 4294967296 ^ xs.length := by
  induction xs with
  | nil => simp [val]
  | cons x xs ih =>
    have h1 := ih h.tail
    have h2 := h.head
    simp only [val, List.length_cons, Nat.pow_succ]
    have : val xs + 1 ≤ 4294967296 ^ xs.length := h1
    omega
theorem val_split (xs : List Nat) (k : Nat) : val xs = val (xs.take k) + 4294967296 ^ (min k xs.length) * val (xs.drop k) := by
  have h := val_append (xs.take k) (xs.drop k)
  rw [List.take_append_drop, List.length_take] at h
  exact h
theorem val_take_succ (xs : List Nat) (k : Nat) : val (xs.take (k + 1)) = val (xs.take k) + 4294967296 ^ k * xs[k]?.getD 0 := by
  rcases Nat.lt_or_ge k xs.length with h | h
  · rw [List.take_succ_eq_append_getElem h, val_snoc, List.length_take, Nat.min_eq_left (by omega), List.getElem?_eq_getElem h]; rfl
  · rw [List.take_of_length_le (by omega), List.take_of_length_le (by omega), List.getElem?_eq_none h]; simp
theorem val_trim (xs : List Nat) : val (trim xs) = val xs := by
  induction xs with
  | nil => rfl
  | cons x xs ih =>
    simp only [trim]
    split
    · rename_i hc
      rw [hc.2] at ih
      simp only [val] at ih ⊢
      omega
    · simp [val, ih]
theorem trim_trim (xs : List Nat) : trim (trim xs) = trim xs := by
  induction xs with
  | nil => rfl
  | cons x xs ih =>
    simp only [trim]
    split
    · rfl
    · rename_i hc
      simp only [trim, ih]
      rw [if_neg hc]
theorem mem_trim {xs : List Nat} {y : Nat} (h : y ∈ trim xs) : y ∈ xs := by
  induction xs with
  | nil => exact h
  | cons x xs ih =>
    simp only [trim] at h
    split at h
    · cases h
    · rcases List.mem_cons.1 h with rfl | h
      · simp
      · simp [ih h]
theorem Lm.trim {xs : List Nat} (h : Lm xs) : Lm (trim xs) := fun y hy => h y (mem_trim hy)
theorem can_trim {xs : List Nat} (h : Lm xs) : Can (trim xs) := ⟨h.trim, trim_trim xs⟩
theorem trim_length_le (xs : List Nat) : (trim xs).length ≤ xs.length := by
  induction xs with
  | nil => simp [trim]
  | cons x xs ih =>
    simp only [trim]
    split
    · simp
    · simp only [List.length_cons]; omega
theorem trim_take (xs : List Nat) : trim xs = xs.take (trim xs).length := by
  induction xs with
  | nil => rfl
  | cons x xs ih =>
    simp only [trim]
    split
    · simp
    · simp only [List.length_cons, List.take_succ_cons, ← ih]
theorem trim_snoc_zero (xs : List Nat) : trim (xs ++ [0]) = trim xs := by
  induction xs with
  | nil => simp [trim]
  | cons x xs ih => simp only [List.cons_append, trim, ih]
theorem trim_snoc_pos (xs : List Nat) {y : Nat} (h : y ≠ 0) : trim (xs ++ [y]) = xs ++ [y] := by
  induction xs with
  | nil => simp [trim, h]
  | cons x xs ih => simp only [List.cons_append, trim, ih]; simp
theorem can_last {xs : List Nat} {y : Nat} (h : Can (xs ++ [y])) : y ≠ 0 := by
  rintro rfl
  have h1 := h.2
  rw [trim_snoc_zero] at h1
  have h2 := trim_length_le xs
  have h3 := congrArg List.length h1
  simp at h3
  omega
/-- a list without leading zeros is as long as its number is great -/
theorem can_len {xs : List Nat} (h : Can xs) (n : Nat) : n < xs.length ↔ 4294967296 ^ n ≤ val xs := by
  constructor
  · intro hn
    have hne : xs ≠ [] := by intro e; subst e; simp at hn
    obtain ⟨ys, y, rfl⟩ : ∃ ys y, xs = ys ++ [y] := ⟨xs.dropLast, xs.getLast hne, (List.dropLast_concat_getLast hne).symm⟩
    have hy := can_last h
    rw [val_snoc]
    have h1 : 4294967296 ^ n ≤ 4294967296 ^ ys.length := Nat.pow_le_pow_right (by decide) (by simp at hn; omega)
    have h2 : 4294967296 ^ ys.length * 1 ≤ 4294967296 ^ ys.length * y := Nat.mul_le_mul_left _ (by omega)
    omega
  · intro hn
    have h1 := val_lt h.1
    rcases Nat.lt_or_ge n xs.length with h2 | h2
    · exact h2
    · have h3 : 4294967296 ^ xs.length ≤ 4294967296 ^ n := Nat.pow_le_pow_right (by decide) h2
      omega
theorem can_len_lt {xs ys : List Nat} (hx : Can xs) (hy : Can ys) (h : xs.length < ys.length) : val xs < val ys := by
  have h1 := (can_len hy xs.length).1 h
  have h2 := val_lt hx.1
  omega
theorem val_len_lt {xs : List Nat} (hx : Lm xs) {n : Nat} (h : xs.length ≤ n) : val xs < 4294967296 ^ n := by
  have h2 := val_lt hx
  have h3 : 4294967296 ^ xs.length ≤ 4294967296 ^ n := Nat.pow_le_pow_right (by decide) h
  omega

end LM
end Go.Proofs.YtdhjbhcfkajfdaaGreatDoor

namespace Go.Proofs.YtdhjbhcfkajfdaaGreatDoor
namespace LM

end LM
end Go.Proofs.YtdhjbhcfkajfdaaGreatDoor

namespace Go.Proofs.YtdhjbhcfkajfdaaGreatDoor
open Go
namespace LM

end LM
end Go.Proofs.YtdhjbhcfkajfdaaGreatDoor

namespace Go.Proofs.YtdhjbhcfkajfdaaGreatDoor
open Go
namespace LM

end LM
end Go.Proofs.YtdhjbhcfkajfdaaGreatDoor

namespace Go.Proofs.YtdhjbhcfkajfdaaGreatDoor
open Go
namespace LM

end LM
end Go.Proofs.YtdhjbhcfkajfdaaGreatDoor

namespace Go.Proofs.YtdhjbhcfkajfdaaGreatDoor
namespace LM

end LM
end Go.Proofs.YtdhjbhcfkajfdaaGreatDoor

namespace Go.Proofs.YtdhjbhcfkajfdaaGreatDoor
namespace LM

end LM
end Go.Proofs.YtdhjbhcfkajfdaaGreatDoor

namespace Go.Proofs.YtdhjbhcfkajfdaaGreatDoor
namespace LM
set_option linter.unusedVariables false

/-- a function, changed at one place -/
def upd (f : Nat → Nat) (i v : Nat) : Nat → Nat := fun j => if j = i then v else f j
/-- a decimal: its bytes, how many of them are digits, where the point is, its sign, whether some were left out -/
structure Dec where
  f : Nat → Nat
  nd : Nat
  dp : Int
  neg : Bool
  tr : Bool

/-- digits from a place on, before another -/
def Dig (f : Nat → Nat) (a b : Nat) : Prop := ∀ i, a ≤ i → i < b → 48 ≤ f i ∧ f i ≤ 57
/-- a decimal that isn't nought -/
structure DOk (s : Dec) : Prop where
  pos : 1 ≤ s.nd
  most : s.nd ≤ 800
  lead : 49 ≤ s.f 0
  dig : Dig s.f 0 s.nd

/-! trim -/
/-! to the right -/
/-- a digit taken, a digit put down -/
def rs2 (K c : Nat) : Nat → (Nat → Nat) → Nat → Nat → (Nat → Nat) × Nat × Nat
  | 0, f, w, n => (f, w, n)
  | q + 1, f, w, n => rs2 K c q (upd f w (n / K + 48)) (w + 1) (n % K * 10 + (f (w + c) - 48))
/-- further digits -/
def rs3 (K : Nat) : Nat → (Nat → Nat) → Nat → Nat → Bool → (Nat → Nat) × Nat × Bool
  | 0, f, w, n, tr => (f, w, tr)
  | q + 1, f, w, n, tr => if n = 0 then (f, w, tr) else if w < 800 then rs3 K q (upd f w (n / K + 48)) (w + 1) (n % K * 10) tr else rs3 K q f w (n % K * 10) (tr || decide (0 < n / K))
end LM
end Go.Proofs.YtdhjbhcfkajfdaaGreatDoor

namespace Go.Proofs.YtdhjbhcfkajfdaaGreatDoor
namespace LM
set_option linter.unusedVariables false

/-! numbers of digits -/
/-- of the first ones -/
def V (f : Nat → Nat) : Nat → Nat
  | 0 => 0
  | n + 1 => V f n * 10 + (f n - 48)
/-- of some from a place on -/
def Vr (f : Nat → Nat) : Nat → Nat → Nat
  | _, 0 => 0
  | i, m + 1 => (f i - 48) * 10 ^ m + Vr f (i + 1) m
/-! less by the first digits -/
def pl (f : Nat → Nat) (nd : Nat) (c : Nat → Nat) : Nat → Nat → Bool
  | 0, _ => false
  | q + 1, i => if nd ≤ i then true else if f i = c i then pl f nd c q (i + 1) else decide (f i < c i)
/-! the steps -/
/-! the table -/
def lcRows : List (Nat × List Nat) := [(0, []), (1, [53]), (1, [50, 53]), (1, [49, 50, 53]), (2, [54, 50, 53]), (2, [51, 49, 50, 53]), (2, [49, 53, 54, 50, 53]), (3, [55, 56, 49, 50, 53]), (3, [51, 57, 48, 54, 50, 53]), (3, [49, 57, 53, 51, 49, 50, 53]), (4, [57, 55, 54, 53, 54, 50, 53]), (4, [52, 56, 56, 50, 56, 49, 50, 53]), (4, [50, 52, 52, 49, 52, 48, 54, 50, 53]), (4, [49, 50, 50, 48, 55, 48, 51, 49, 50, 53]), (5, [54, 49, 48, 51, 53, 49, 53, 54, 50, 53]), (5, [51, 48, 53, 49, 55, 53, 55, 56, 49, 50, 53]), (5, [49, 53, 50, 53, 56, 55, 56, 57, 48, 54, 50, 53]), (6, [55, 54, 50, 57, 51, 57, 52, 53, 51, 49, 50, 53]), (6, [51, 56, 49, 52, 54, 57, 55, 50, 54, 53, 54, 50, 53]), (6, [49, 57, 48, 55, 51, 52, 56, 54, 51, 50, 56, 49, 50, 53]), (7, [57, 53, 51, 54, 55, 52, 51, 49, 54, 52, 48, 54, 50, 53]), (7, [52, 55, 54, 56, 51, 55, 49, 53, 56, 50, 48, 51, 49, 50, 53]), (7, [50, 51, 56, 52, 49, 56, 53, 55, 57, 49, 48, 49, 53, 54, 50, 53]), (7, [49, 49, 57, 50, 48, 57, 50, 56, 57, 53, 53, 48, 55, 56, 49, 50, 53]), (8, [53, 57, 54, 48, 52, 54, 52, 52, 55, 55, 53, 51, 57, 48, 54, 50, 53]), (8, [50, 57, 56, 48, 50, 51, 50, 50, 51, 56, 55, 54, 57, 53, 51, 49, 50, 53]), (8, [49, 52, 57, 48, 49, 49, 54, 49, 49, 57, 51, 56, 52, 55, 54, 53, 54, 50, 53]), (9, [55, 52, 53, 48, 53, 56, 48, 53, 57, 54, 57, 50, 51, 56, 50, 56, 49, 50, 53]), (9, [51, 55, 50, 53, 50, 57, 48, 50, 57, 56, 52, 54, 49, 57, 49, 52, 48, 54, 50, 53]), (9, [49, 56, 54, 50, 54, 52, 53, 49, 52, 57, 50, 51, 48, 57, 53, 55, 48, 51, 49, 50, 53]), (10, [57, 51, 49, 51, 50, 50, 53, 55, 52, 54, 49, 53, 52, 55, 56, 53, 49, 53, 54, 50, 53]), (10, [52, 54, 53, 54, 54, 49, 50, 56, 55, 51, 48, 55, 55, 51, 57, 50, 53, 55, 56, 49, 50, 53]), (10, [50, 51, 50, 56, 51, 48, 54, 52, 51, 54, 53, 51, 56, 54, 57, 54, 50, 56, 57, 48, 54, 50, 53]), (10, [49, 49, 54, 52, 49, 53, 51, 50, 49, 56, 50, 54, 57, 51, 52, 56, 49, 52, 52, 53, 51, 49, 50, 53]), (11, [53, 56, 50, 48, 55, 54, 54, 48, 57, 49, 51, 52, 54, 55, 52, 48, 55, 50, 50, 54, 53, 54, 50, 53]), (11, [50, 57, 49, 48, 51, 56, 51, 48, 52, 53, 54, 55, 51, 51, 55, 48, 51, 54, 49, 51, 50, 56, 49, 50, 53]), (11, [49, 52, 53, 53, 49, 57, 49, 53, 50, 50, 56, 51, 54, 54, 56, 53, 49, 56, 48, 54, 54, 52, 48, 54, 50, 53]), (12, [55, 50, 55, 53, 57, 53, 55, 54, 49, 52, 49, 56, 51, 52, 50, 53, 57, 48, 51, 51, 50, 48, 51, 49, 50, 53]), (12, [51, 54, 51, 55, 57, 55, 56, 56, 48, 55, 48, 57, 49, 55, 49, 50, 57, 53, 49, 54, 54, 48, 49, 53, 54, 50, 53]), (12, [49, 56, 49, 56, 57, 56, 57, 52, 48, 51, 53, 52, 53, 56, 53, 54, 52, 55, 53, 56, 51, 48, 48, 55, 56, 49, 50, 53]), (13, [57, 48, 57, 52, 57, 52, 55, 48, 49, 55, 55, 50, 57, 50, 56, 50, 51, 55, 57, 49, 53, 48, 51, 57, 48, 54, 50, 53]), (13, [52, 53, 52, 55, 52, 55, 51, 53, 48, 56, 56, 54, 52, 54, 52, 49, 49, 56, 57, 53, 55, 53, 49, 57, 53, 51, 49, 50, 53]), (13, [50, 50, 55, 51, 55, 51, 54, 55, 53, 52, 52, 51, 50, 51, 50, 48, 53, 57, 52, 55, 56, 55, 53, 57, 55, 54, 53, 54, 50, 53]), (13, [49, 49, 51, 54, 56, 54, 56, 51, 55, 55, 50, 49, 54, 49, 54, 48, 50, 57, 55, 51, 57, 51, 55, 57, 56, 56, 50, 56, 49, 50, 53]), (14, [53, 54, 56, 52, 51, 52, 49, 56, 56, 54, 48, 56, 48, 56, 48, 49, 52, 56, 54, 57, 54, 56, 57, 57, 52, 49, 52, 48, 54, 50, 53]), (14, [50, 56, 52, 50, 49, 55, 48, 57, 52, 51, 48, 52, 48, 52, 48, 48, 55, 52, 51, 52, 56, 52, 52, 57, 55, 48, 55, 48, 51, 49, 50, 53]), (14, [49, 52, 50, 49, 48, 56, 53, 52, 55, 49, 53, 50, 48, 50, 48, 48, 51, 55, 49, 55, 52, 50, 50, 52, 56, 53, 51, 53, 49, 53, 54, 50, 53]), (15, [55, 49, 48, 53, 52, 50, 55, 51, 53, 55, 54, 48, 49, 48, 48, 49, 56, 53, 56, 55, 49, 49, 50, 52, 50, 54, 55, 53, 55, 56, 49, 50, 53]), (15, [51, 53, 53, 50, 55, 49, 51, 54, 55, 56, 56, 48, 48, 53, 48, 48, 57, 50, 57, 51, 53, 53, 54, 50, 49, 51, 51, 55, 56, 57, 48, 54, 50, 53]), (15, [49, 55, 55, 54, 51, 53, 54, 56, 51, 57, 52, 48, 48, 50, 53, 48, 52, 54, 52, 54, 55, 55, 56, 49, 48, 54, 54, 56, 57, 52, 53, 51, 49, 50, 53]), (16, [56, 56, 56, 49, 55, 56, 52, 49, 57, 55, 48, 48, 49, 50, 53, 50, 51, 50, 51, 51, 56, 57, 48, 53, 51, 51, 52, 52, 55, 50, 54, 53, 54, 50, 53]), (16, [52, 52, 52, 48, 56, 57, 50, 48, 57, 56, 53, 48, 48, 54, 50, 54, 49, 54, 49, 54, 57, 52, 53, 50, 54, 54, 55, 50, 51, 54, 51, 50, 56, 49, 50, 53]), (16, [50, 50, 50, 48, 52, 52, 54, 48, 52, 57, 50, 53, 48, 51, 49, 51, 48, 56, 48, 56, 52, 55, 50, 54, 51, 51, 51, 54, 49, 56, 49, 54, 52, 48, 54, 50, 53]), (16, [49, 49, 49, 48, 50, 50, 51, 48, 50, 52, 54, 50, 53, 49, 53, 54, 53, 52, 48, 52, 50, 51, 54, 51, 49, 54, 54, 56, 48, 57, 48, 56, 50, 48, 51, 49, 50, 53]), (17, [53, 53, 53, 49, 49, 49, 53, 49, 50, 51, 49, 50, 53, 55, 56, 50, 55, 48, 50, 49, 49, 56, 49, 53, 56, 51, 52, 48, 52, 53, 52, 49, 48, 49, 53, 54, 50, 53]), (17, [50, 55, 55, 53, 53, 53, 55, 53, 54, 49, 53, 54, 50, 56, 57, 49, 51, 53, 49, 48, 53, 57, 48, 55, 57, 49, 55, 48, 50, 50, 55, 48, 53, 48, 55, 56, 49, 50, 53]), (17, [49, 51, 56, 55, 55, 55, 56, 55, 56, 48, 55, 56, 49, 52, 52, 53, 54, 55, 53, 53, 50, 57, 53, 51, 57, 53, 56, 53, 49, 49, 51, 53, 50, 53, 51, 57, 48, 54, 50, 53]), (18, [54, 57, 51, 56, 56, 57, 51, 57, 48, 51, 57, 48, 55, 50, 50, 56, 51, 55, 55, 54, 52, 55, 54, 57, 55, 57, 50, 53, 53, 54, 55, 54, 50, 54, 57, 53, 51, 49, 50, 53]), (18, [51, 52, 54, 57, 52, 52, 54, 57, 53, 49, 57, 53, 51, 54, 49, 52, 49, 56, 56, 56, 50, 51, 56, 52, 56, 57, 54, 50, 55, 56, 51, 56, 49, 51, 52, 55, 54, 53, 54, 50, 53]), (18, [49, 55, 51, 52, 55, 50, 51, 52, 55, 53, 57, 55, 54, 56, 48, 55, 48, 57, 52, 52, 49, 49, 57, 50, 52, 52, 56, 49, 51, 57, 49, 57, 48, 54, 55, 51, 56, 50, 56, 49, 50, 53]), (19, [56, 54, 55, 51, 54, 49, 55, 51, 55, 57, 56, 56, 52, 48, 51, 53, 52, 55, 50, 48, 53, 57, 54, 50, 50, 52, 48, 54, 57, 53, 57, 53, 51, 51, 54, 57, 49, 52, 48, 54, 50, 53])]
def lcD (k : Nat) : Nat := (lcRows[k]?.getD (0, [])).1
def lcL (k : Nat) : Nat := (lcRows[k]?.getD (0, [])).2.length
def lcC (k i : Nat) : Nat := (lcRows[k]?.getD (0, [])).2.getD i 0
structure LcOk (k : Nat) : Prop where
  len : lcL k + lcD k = k + 1
  val : Vr (lcC k) 0 (lcL k) = 5 ^ k
  pos : 1 ≤ lcL k
  last : 49 ≤ lcC k (lcL k - 1)
  dig : Dig (lcC k) 0 (lcL k)
  two : 2 ^ k < 10 ^ lcD k
  lo : 1 ≤ lcD k
  hi : lcD k ≤ 19
  three : k ≤ 3 ∨ 2 ≤ lcD k
end LM
end Go.Proofs.YtdhjbhcfkajfdaaGreatDoor

namespace Go.Proofs.YtdhjbhcfkajfdaaGreatDoor
namespace LM
set_option linter.unusedVariables false

/-- is it below a half -/
def below (s : Dec) : Bool := decide (s.dp < 0) || (decide (s.dp = 0) && decide (s.f 0 < 53))
end LM
end Go.Proofs.YtdhjbhcfkajfdaaGreatDoor

namespace Go.Proofs.YtdhjbhcfkajfdaaGreatDoor
namespace LM
set_option linter.unusedVariables false

/-- is a byte a digit -/
def dgc (c : Nat) : Prop := 48 ≤ c ∧ c ≤ 57
/-- the text of a number: its sign's length, where its digits end, where the exponent's digits begin (z long); B: its bytes -/
structure NumQ (B : Nat → Nat) (z a m b : Nat) : Prop where
  a1 : a ≤ 1
  am : a < m
  mz : m ≤ z
  sig : a = 1 → B 0 = 43 ∨ B 0 = 45
  sig0 : a = 0 → dgc (B 0) ∨ B 0 = 46
  man : ∀ i, a ≤ i → i < m → dgc (B i) ∨ B i = 46
  one : ∀ i j, a ≤ i → i < j → j < m → B i = 46 → dgc (B j)
  dig : ∃ i, a ≤ i ∧ i < m ∧ dgc (B i)
  ex : m = z ∨ ((B m = 101 ∨ B m = 69) ∧ ((b = m + 1 ∧ dgc (B (m + 1))) ∨ (b = m + 2 ∧ (B (m + 1) = 43 ∨ B (m + 1) = 45))) ∧ b < z ∧ z ≤ b + 4 ∧ ∀ i, b ≤ i → i < z → dgc (B i))

/-- what is read of the digits -/
structure RF where
  mant : Nat
  nd : Nat
  ndm : Nat
  dp : Int
  dot : Bool
  dig : Bool
  tr : Bool
structure RfOk (s : RF) (j : Nat) : Prop where
  mant : s.mant < 10 ^ s.ndm
  ndm : s.ndm ≤ 19
  le : s.ndm ≤ s.nd
  nd : s.nd ≤ j
  lo : -(j : Int) ≤ s.dp
  hi : s.dp ≤ j
  nz : s.nd = 0 → s.mant = 0 ∧ s.ndm = 0
  pos : 1 ≤ s.nd → 1 ≤ s.mant
/-! the same digits, as a decimal -/
structure ST where
  d : Dec
  dot : Bool
  dig : Bool
structure StOk (s : ST) (r : RF) (j : Nat) : Prop where
  nd : s.d.nd = r.nd
  dp : s.d.dp = r.dp
  dot : s.dot = r.dot
  di : s.dig = r.dig
  le : s.d.nd ≤ j
  tr : s.d.tr = false
  lead : 1 ≤ s.d.nd → 49 ≤ s.d.f 0
  dig : Dig s.d.f 0 s.d.nd
end LM
end Go.Proofs.YtdhjbhcfkajfdaaGreatDoor
