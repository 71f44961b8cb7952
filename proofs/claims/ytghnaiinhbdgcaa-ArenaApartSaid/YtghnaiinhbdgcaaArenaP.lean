/- The law ArenaFills: its mathematics. -/
import Derived.Test.YtghnaiinhbdgcaaArenaG
import Derived.Test.YtghnaiinhbdgcaaArenaK
namespace Go.Proofs.Ytghnaiinhbdgcaa
open Go Go.RowKit
namespace LM
set_option linter.unusedVariables false
set_option linter.unusedSimpArgs false

theorem cntB_add (f : Nat → Bool) (o n : Nat) : ∀ m, cntB f o (n + m) = cntB f o n + cntB f (o + n) m
  | 0 => rfl
  | m + 1 => by
    rw [← Nat.add_assoc, cntB, cntB, cntB_add f o n m, Nat.add_assoc o n m]
    omega
theorem cnt_tk (T : Nat → Bool) (x y : Nat) (hxy : x ≤ y) (hf : ∀ l, x ≤ l → l < y → T l = false) : ∀ n, cntB (tk T x y) 0 n + (min n y - min n x) = cntB T 0 n
  | 0 => by simp [cntB]
  | n + 1 => by
    have ih := cnt_tk T x y hxy hf n
    rw [cntB, cntB, Nat.zero_add]
    by_cases h1 : x ≤ n
    · by_cases h2 : n < y
      · rw [if_neg (by rw [tk_true.2 (.inr ⟨h1, h2⟩)]; decide), if_pos (hf n h1 h2)]
        omega
      · have e : tk T x y n = T n := by
          unfold tk
          rw [decide_eq_false h2]
          simp
        rw [e]
        omega
    · have e : tk T x y n = T n := by
        unfold tk
        rw [decide_eq_false h1]
        simp
      rw [e]
      omega
theorem cntB_zero {T : Nat → Bool} : ∀ n, cntB T 0 n = 0 → ∀ l, l < n → T l = true
  | 0, _, l, hl => by omega
  | n + 1, h, l, hl => by
    rw [cntB, Nat.zero_add] at h
    by_cases e : l = n
    · subst e
      cases hT : T l
      · rw [if_pos hT] at h; omega
      · rfl
    · exact cntB_zero n (by omega) l (by omega)
theorem cntB_pos {T : Nat → Bool} : ∀ n, (∀ l, l < n → T l = true) → cntB T 0 n = 0
  | 0, _ => rfl
  | n + 1, h => by
    rw [cntB, Nat.zero_add, cntB_pos n (fun l hl => h l (by omega)), if_neg (by rw [h n (by omega)]; decide)]
/-- m lines are left -/
structure Fill (A : Ar) (nx m : Nat) : Prop where
  wf : Wf A nx
  al : ∃ s t : Nat, A.F 3 = ((16 * t : Nat) : Int) ∧ A.F 4 = ((16 * (t + s) : Nat) : Int) ∧ s + cntB A.T 0 (16 * A.nb) = m
  low : ∀ l, l < nx → A.T l = true
theorem upd_3 (F : Nat → Int) (v : Int) : upd F 3 v 3 = v ∧ upd F 3 v 4 = F 4 ∧ upd F 3 v 5 = F 5 ∧ upd F 3 v 6 = F 6 ∧ upd F 3 v 7 = F 7 ∧ upd F 3 v 8 = F 8 ∧ upd F 3 v 9 = F 9 := by simp [upd]
theorem upd_some (F : Nat → Int) (a b c d : Int) : upd (upd (upd (upd F 3 a) (3 + 1) b) 9 c) 3 d 3 = d ∧ upd (upd (upd (upd F 3 a) (3 + 1) b) 9 c) 3 d 4 = b ∧ upd (upd (upd (upd F 3 a) (3 + 1) b) 9 c) 3 d 5 = F 5 ∧ upd (upd (upd (upd F 3 a) (3 + 1) b) 9 c) 3 d 6 = F 6 ∧ upd (upd (upd (upd F 3 a) (3 + 1) b) 9 c) 3 d 7 = F 7 ∧ upd (upd (upd (upd F 3 a) (3 + 1) b) 9 c) 3 d 8 = F 8 ∧ upd (upd (upd (upd F 3 a) (3 + 1) b) 9 c) 3 d 9 = c := by simp [upd]
theorem upd_some3 (F : Nat → Int) (a b c : Int) : upd (upd (upd F 3 a) (3 + 1) b) 9 c 3 = a := by simp [upd]
/-- Alloc of few words keeps what holds of runs -/
theorem alcS_wf {A : Ar} {nx n : Nat} (hw : Wf A nx) (hn : 1 ≤ n) : Wf (alcS A nx n).2.1 (alcS A nx n).2.2 ∧ (alcS A nx n).2.1.nb = A.nb ∧ (alcS A nx n).2.1.blks = A.blks := by
  by_cases hf : (n : Int) ≤ A.F 4 - A.F 3
  · have hv : alcS A nx n = ((A.F 3, true), A.cut 3 n, nx) := if_pos hf
    rw [hv]
    obtain ⟨⟨a1, a2, a3⟩, b, c, d, e⟩ := hw
    obtain ⟨u3, u4, u5, u6, u7, u8, u9⟩ := upd_3 A.F (A.F 3 + (n : Int))
    refine ⟨⟨?_, ?_, ?_, ?_, e⟩, rfl, rfl⟩
    · dsimp only; rw [u3, u4]; omega
    · dsimp only; rw [u5, u6]; exact b
    · dsimp only; rw [u7, u8]; exact c
    · dsimp only; rw [u9]; exact d
  · cases hR : findH A.T (16 * A.nb) n (16 * A.nb) nx with
    | none => rw [alcS_none hf hR]; exact ⟨hw, rfl, rfl⟩
    | some p =>
      obtain ⟨x, y⟩ := p
      rw [alcS_some hf hR]
      obtain ⟨r1, r2, r3, r4, r5, r6, r7⟩ := findH_some A.T A.nb n hn _ _ _ _ hR
      obtain ⟨⟨a1, a2, a3⟩, b, c, d, e⟩ := hw
      obtain ⟨u3, u4, u5, u6, u7, u8, u9⟩ := upd_some A.F ((16 * x : Nat) : Int) ((16 * y : Nat) : Int) ((16 * y : Nat) : Int) (((16 * x : Nat) : Int) + (n : Int))
      refine ⟨⟨?_, ?_, ?_, ?_, e⟩, rfl, rfl⟩
      · dsimp only; rw [upd_some3, u3, u4]; omega
      · dsimp only; rw [upd_some3, u5, u6]; exact b
      · dsimp only; rw [upd_some3, u7, u8]; exact c
      · dsimp only; rw [upd_some3, u9]; exact ⟨rfl, r3⟩
theorem fill_step {A : Ar} {nx m : Nat} (h : Fill A nx (m + 1)) : (∃ t : Nat, (alcS A nx 16).1 = (((16 * t : Nat) : Int), true)) ∧ Fill (alcS A nx 16).2.1 (alcS A nx 16).2.2 m := by
  obtain ⟨s, t, h3, h4, hs⟩ := h.al
  have hw := (alcS_wf (n := 16) h.wf (by decide)).1
  by_cases hf : ((16 : Nat) : Int) ≤ A.F 4 - A.F 3
  · have hv : alcS A nx 16 = ((A.F 3, true), A.cut 3 16, nx) := if_pos hf
    rw [hv] at hw ⊢
    obtain ⟨u3, u4, u5, u6, u7, u8, u9⟩ := upd_3 A.F (A.F 3 + ((16 : Nat) : Int))
    refine ⟨⟨t, by rw [h3]⟩, hw, ⟨s - 1, t + 1, ?_, ?_, ?_⟩, h.low⟩
    · dsimp only; rw [u3, h3]; omega
    · dsimp only; rw [u4, h4]; omega
    · dsimp only; omega
  · have s0 : s = 0 := by omega
    subst s0
    cases hR : findH A.T (16 * A.nb) 16 (16 * A.nb) nx with
    | none =>
      have h1 := findH_none A.T (16 * A.nb) 16 (by decide) (by decide) (16 * A.nb) nx (by omega) hR
      have h2 := cntB_pos (T := A.T) (16 * A.nb) (fun l hl => by
        by_cases hx : nx ≤ l
        · exact h1 l hx hl
        · exact h.low l (by omega))
      omega
    | some p =>
      obtain ⟨x, y⟩ := p
      rw [alcS_some hf hR] at hw ⊢
      obtain ⟨r1, r2, r3, r4, r5, r6, r7⟩ := findH_some A.T A.nb 16 (by decide) _ _ _ _ hR
      obtain ⟨u3, u4, u5, u6, u7, u8, u9⟩ := upd_some A.F ((16 * x : Nat) : Int) ((16 * y : Nat) : Int) ((16 * y : Nat) : Int) (((16 * x : Nat) : Int) + ((16 : Nat) : Int))
      refine ⟨⟨x, rfl⟩, hw, ⟨y - x - 1, x + 1, ?_, ?_, ?_⟩, ?_⟩
      · dsimp only; rw [upd_some3, u3]; omega
      · dsimp only; rw [upd_some3, u4]; omega
      · dsimp only
        have h9 := cnt_tk A.T x y (by omega) r6 (16 * A.nb)
        omega
      · intro l hl
        dsimp only
        rw [tk_true]
        by_cases h1 : x ≤ l
        · exact .inr ⟨h1, hl⟩
        · by_cases h2 : nx ≤ l
          · exact .inl (r7 (by decide) l h2 (by omega))
          · exact .inl (h.low l (by omega))
theorem fill_end {A : Ar} {nx : Nat} (h : Fill A nx 0) : alcS A nx 1 = ((0, false), A, nx) ∧ cntE A.T A.nb = 0 := by
  obtain ⟨s, t, h3, h4, hs⟩ := h.al
  have s0 : s = 0 := by omega
  subst s0
  have hall := cntB_zero (T := A.T) (16 * A.nb) (by omega)
  refine ⟨?_, cntE_zero A.nb hall⟩
  cases hR : findH A.T (16 * A.nb) 1 (16 * A.nb) nx with
  | none => exact alcS_none (by rw [h3, h4]; omega) hR
  | some p =>
    obtain ⟨x, y⟩ := p
    obtain ⟨r1, r2, r3, r4, r5, r6, r7⟩ := findH_some A.T A.nb 1 (by decide) _ _ _ _ hR
    have h1 := r6 x (Nat.le_refl _) r2
    rw [hall x (by omega)] at h1
    cases h1
theorem fill_start {A : Ar} (hb : A.nb ≤ 4096) : Fill A.swept 0 (cntB A.M 0 (16 * A.nb)) :=
  ⟨⟨⟨Int.le_refl _, Int.le_refl _, by show (0 : Int) ≤ _; omega⟩, ⟨Int.le_refl _, Int.le_refl _, by show (0 : Int) ≤ _; omega⟩, ⟨Int.le_refl _, Int.le_refl _, by show (0 : Int) ≤ _; omega⟩, ⟨rfl, Nat.zero_le _⟩, hb⟩, ⟨0, 0, rfl, rfl, Nat.zero_add _⟩, fun l hl => absurd hl (Nat.not_lt_zero l)⟩
end LM
end Go.Proofs.Ytghnaiinhbdgcaa
