/- Holes of an arena: their mathematics. -/
import Derived.Test.YtghnaiinhbdgcaaArenaB
namespace Go.Proofs.Ytghnaiinhbdgcaa
open Go Go.RowKit
namespace LM
set_option linter.unusedVariables false

/-- how many of at most k lines from x on aren't taken -/
def hlen (T : Nat → Bool) (x : Nat) : Nat → Nat
  | 0 => 0
  | k + 1 => if T x then 0 else hlen T (x + 1) k + 1
theorem hlen_le (T : Nat → Bool) : ∀ k x, hlen T x k ≤ k
  | 0, x => Nat.le_refl _
  | k + 1, x => by
    unfold hlen
    split
    · omega
    · have := hlen_le T k (x + 1); omega
theorem hlen_free (T : Nat → Bool) : ∀ k x l, x ≤ l → l < x + hlen T x k → T l = false
  | 0, x, l, h1, h2 => by simp only [hlen] at h2; omega
  | k + 1, x, l, h1, h2 => by
    unfold hlen at h2
    split at h2
    · omega
    · rename_i hT
      by_cases e : l = x
      · subst e; simpa using hT
      · exact hlen_free T k (x + 1) l (by omega) (by omega)
theorem hlen_stop (T : Nat → Bool) : ∀ k x, hlen T x k < k → T (x + hlen T x k) = true
  | 0, x, h => by omega
  | k + 1, x, h => by
    unfold hlen at h ⊢
    split
    · rename_i hT; simpa using hT
    · rename_i hT
      rw [if_neg hT] at h
      have := hlen_stop T k (x + 1) (by omega)
      rw [show x + (hlen T (x + 1) k + 1) = x + 1 + hlen T (x + 1) k by omega]
      exact this
/-- where the hole from line x on ends -/
def hend (T : Nat → Bool) (x : Nat) : Nat := x + hlen T x (16 - x % 16)
theorem hend_ge (T : Nat → Bool) (x : Nat) : x ≤ hend T x := by unfold hend; omega
theorem hend_le (T : Nat → Bool) (x : Nat) : hend T x ≤ (x / 16 + 1) * 16 := by
  have := hlen_le T (16 - x % 16) x
  unfold hend
  omega
theorem hend_free (T : Nat → Bool) {x l : Nat} (h1 : x ≤ l) (h2 : l < hend T x) : T l = false := hlen_free T _ x l h1 h2
theorem hend_stop (T : Nat → Bool) {x : Nat} (h : hend T x < (x / 16 + 1) * 16) : T (hend T x) = true := hlen_stop T _ x (by unfold hend at h; omega)
theorem hend_bound (T : Nat → Bool) {x N : Nat} (h : x < 16 * N) : hend T x ≤ 16 * N := by
  have := hend_le T x
  omega
/-- the first hole of n words or more, from line x on, of N lines; f rounds at most -/
def findH (T : Nat → Bool) (N n : Nat) : Nat → Nat → Option (Nat × Nat)
  | 0, x => none
  | f + 1, x => if x < N then (if n ≤ 16 * (hend T x - x) then some (x, hend T x) else findH T N n f (max (hend T x) (x + 1))) else none
theorem findH_out (T : Nat → Bool) {N n f x : Nat} (h : N ≤ x) : findH T N n f x = none := by
  cases f with
  | zero => rfl
  | succ f => unfold findH; rw [if_neg (by omega)]
theorem findH_fuel (T : Nat → Bool) (N n : Nat) : ∀ f g x, N - x ≤ f → N - x ≤ g → findH T N n f x = findH T N n g x
  | 0, g, x, h1, h2 => by rw [findH_out T (by omega), findH_out T (by omega)]
  | f + 1, 0, x, h1, h2 => by rw [findH_out T (by omega), findH_out T (by omega)]
  | f + 1, g + 1, x, h1, h2 => by
    unfold findH
    split
    · split
      · rfl
      · exact findH_fuel T N n f g _ (by omega) (by omega)
    · rfl
/-- a hole found -/
theorem findH_some (T : Nat → Bool) (N n : Nat) (hn : 1 ≤ n) : ∀ f x x' y', findH T (16 * N) n f x = some (x', y') → x ≤ x' ∧ x' < y' ∧ y' ≤ 16 * N ∧ y' ≤ (x' / 16 + 1) * 16 ∧ n ≤ 16 * (y' - x') ∧ (∀ l, x' ≤ l → l < y' → T l = false) ∧ (n ≤ 16 → ∀ l, x ≤ l → l < x' → T l = true)
  | 0, x, x', y', h => by cases h
  | f + 1, x, x', y', h => by
    unfold findH at h
    split at h
    · rename_i hx
      split at h
      · rename_i hy
        injection h with h
        injection h with h1 h2
        subst h1 h2
        exact ⟨Nat.le_refl _, by omega, hend_bound T hx, hend_le T x, hy, fun l h1 h2 => hend_free T h1 h2, fun _ l h1 h2 => absurd h1 (by omega)⟩
      · rename_i hy
        obtain ⟨r1, r2, r3, r4, r5, r6, r7⟩ := findH_some T N n hn f _ _ _ h
        refine ⟨by omega, r2, r3, r4, r5, r6, fun h16 l h1 h2 => ?_⟩
        have he : hend T x = x := by have := hend_ge T x; omega
        by_cases e : l = x
        · subst e
          have := hend_stop T (x := l) (by omega)
          rwa [he] at this
        · exact r7 h16 l (by omega) h2
    · cases h
theorem findH_none (T : Nat → Bool) (N n : Nat) (hn : 1 ≤ n) (h16 : n ≤ 16) : ∀ f x, N - x ≤ f → findH T N n f x = none → ∀ l, x ≤ l → l < N → T l = true
  | 0, x, hf, h, l, h1, h2 => by omega
  | f + 1, x, hf, h, l, h1, h2 => by
    unfold findH at h
    rw [if_pos (by omega)] at h
    split at h
    · cases h
    · rename_i hy
      have he : hend T x = x := by have := hend_ge T x; omega
      by_cases e : l = x
      · subst e
        have := hend_stop T (x := l) (by omega)
        rwa [he] at this
      · exact findH_none T N n hn h16 f _ (by omega) h l (by omega) h2
/-- is a block empty? -/
def emp (T : Nat → Bool) (j : Nat) : Bool := (List.range 16).all fun i => !(T (16 * j + i))
theorem emp_iff (T : Nat → Bool) (j : Nat) : emp T j = true ↔ ∀ i, i < 16 → T (16 * j + i) = false := by
  unfold emp
  simp
/-- the last empty block -/
def lastE (T : Nat → Bool) : Nat → Option Nat
  | 0 => none
  | k + 1 => if emp T k then some k else lastE T k
theorem lastE_some {T : Nat → Bool} : ∀ {n k}, lastE T n = some k → k < n ∧ emp T k = true
  | 0, k, h => by cases h
  | n + 1, k, h => by
    unfold lastE at h
    split at h
    · rename_i he
      injection h with h
      subst h
      exact ⟨by omega, he⟩
    · obtain ⟨h1, h2⟩ := lastE_some h
      exact ⟨by omega, h2⟩
/-- how many blocks are empty -/
def cntE (T : Nat → Bool) : Nat → Nat
  | 0 => 0
  | k + 1 => cntE T k + (if emp T k then 1 else 0)
theorem cntE_le (T : Nat → Bool) : ∀ n, cntE T n ≤ n
  | 0 => Nat.le_refl _
  | n + 1 => by
    have := cntE_le T n
    unfold cntE
    split <;> omega
theorem cntE_zero {T : Nat → Bool} : ∀ n, (∀ l, l < 16 * n → T l = true) → cntE T n = 0
  | 0, h => rfl
  | n + 1, h => by
    unfold cntE
    rw [cntE_zero n fun l hl => h l (by omega), if_neg]
    intro he
    have h1 := (emp_iff T n).1 he 0 (by omega)
    have h2 := h (16 * n + 0) (by omega)
    rw [h1] at h2
    cases h2
theorem cntE_all {T : Nat → Bool} : ∀ n, (∀ l, l < 16 * n → T l = false) → cntE T n = n
  | 0, h => rfl
  | n + 1, h => by
    unfold cntE
    rw [cntE_all n fun l hl => h l (by omega), if_pos]
    exact (emp_iff T n).2 fun i hi => h _ (by omega)
/-- lines taken -/
def tk (T : Nat → Bool) (x y : Nat) : Nat → Bool := fun l => T l || (decide (x ≤ l) && decide (l < y))
theorem tk_self (T : Nat → Bool) (x : Nat) : tk T x x = T := by
  funext l
  unfold tk
  by_cases h : x ≤ l
  · rw [decide_eq_false (by omega : ¬ l < x)]; simp
  · rw [decide_eq_false h]; simp
theorem tk_step (T : Nat → Bool) {x j : Nat} (h : x ≤ j) : upd (tk T x j) j true = tk T x (j + 1) := by
  funext l
  unfold upd tk
  by_cases e : l = j
  · subst e
    rw [if_pos rfl, decide_eq_true h, decide_eq_true (by omega : l < l + 1)]; simp
  · rw [if_neg e]
    congr 2
    exact decide_eq_decide.2 (by omega)
theorem tk_true {T : Nat → Bool} {x y l : Nat} : tk T x y l = true ↔ T l = true ∨ (x ≤ l ∧ l < y) := by
  unfold tk
  simp
theorem tk_of {T : Nat → Bool} {x y l : Nat} (h : tk T x y l = false) : T l = false ∧ ¬ (x ≤ l ∧ l < y) := by
  have h2 : ¬ (T l = true ∨ (x ≤ l ∧ l < y)) := fun h3 => by rw [tk_true.2 h3] at h; cases h
  refine ⟨?_, fun h3 => h2 (.inr h3)⟩
  cases hT : T l
  · rfl
  · exact absurd (.inl hT) h2
/-- words come off a run -/
abbrev Ar.cut (A : Ar) (o n : Nat) : Ar := { A with F := upd A.F o (A.F o + (n : Int)) }
/-- a hole is taken as a run -/
abbrev Ar.tak (A : Ar) (o x y : Nat) : Ar := { A with T := tk A.T x y, F := upd (upd A.F o ((16 * x : Nat) : Int)) (o + 1) ((16 * y : Nat) : Int) }
end LM
end Go.Proofs.Ytghnaiinhbdgcaa
