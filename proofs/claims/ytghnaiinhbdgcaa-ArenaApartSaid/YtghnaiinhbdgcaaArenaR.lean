/- The law ArenaApart: its mathematics. -/
import Derived.Test.YtghnaiinhbdgcaaArenaP
import Derived.Test.YtghnaiinhbdgcaaArenaGc
import Derived.Test.YtghnaiinhbdgcaaArenaJ
import Derived.Test.YtghnaiinhbdgcaaArenaI
namespace Go.Proofs.Ytghnaiinhbdgcaa
open Go Go.RowKit
namespace LM
set_option linter.unusedVariables false

def RS (o : Nat) : Prop := o = 3 ∨ o = 5 ∨ o = 7
theorem RS.ge {o : Nat} (h : RS o) : 3 ≤ o ∧ o ≤ 8 := by rcases h with rfl | rfl | rfl <;> decide
theorem RS.ne {o p : Nat} (h : RS o) (k : RS p) (e : p ≠ o) : p ≠ o + 1 ∧ p + 1 ≠ o ∧ p + 1 ≠ o + 1 ∧ p ≠ 9 ∧ p + 1 ≠ 9 := by
  rcases h with rfl | rfl | rfl <;> rcases k with rfl | rfl | rfl <;> omega
theorem RS.n9 {o : Nat} (h : RS o) : o ≠ 9 ∧ o + 1 ≠ 9 := by rcases h with rfl | rfl | rfl <;> decide
/-- what is given, kept, marked, and the arena's runs -/
structure Ap (A : Ar) (G K Q : Nat → Bool) : Prop where
  kT : ∀ l, l < 16 * A.nb → K l = true → A.T l = true
  gT : ∀ i, i < 256 * A.nb → G i = true → A.T (i / 16) = true
  qM : ∀ l, l < 16 * A.nb → Q l = true → A.M l = true
  run : ∀ o, RS o → 0 ≤ A.F o ∧ A.F o ≤ A.F (o + 1) ∧ A.F (o + 1) ≤ 256 * A.nb
  blk : ∀ o, RS o → A.F o < A.F (o + 1) → A.F o / 256 = (A.F (o + 1) - 1) / 256
  own : ∀ o, RS o → ∀ i : Nat, A.F o ≤ (i : Int) → (i : Int) < A.F (o + 1) → A.T (i / 16) = true ∧ K (i / 16) = false ∧ G i = false
  dis : ∀ o p, RS o → RS p → p ≠ o → ∀ i : Nat, A.F o ≤ (i : Int) → (i : Int) < A.F (o + 1) → A.F p ≤ (i : Int) → (i : Int) < A.F (p + 1) → False
theorem Ap.wf {A : Ar} {G K Q : Nat → Bool} {nx : Nat} (h : Ap A G K Q) (h9 : A.F 9 = ((16 * nx : Nat) : Int) ∧ nx ≤ 16 * A.nb) (hb : A.nb ≤ 4096) : Wf A nx :=
  ⟨h.run 3 (.inl rfl), h.run 5 (.inr (.inl rfl)), h.run 7 (.inr (.inr rfl)), h9, hb⟩
theorem Ap.nine {A : Ar} {G K Q : Nat → Bool} (h : Ap A G K Q) (v : Int) : Ap { A with F := upd A.F 9 v } G K Q := by
  have e : ∀ o, RS o → upd A.F 9 v o = A.F o ∧ upd A.F 9 v (o + 1) = A.F (o + 1) := fun o ho => ⟨upd_else _ _ ho.n9.1, upd_else _ _ ho.n9.2⟩
  refine ⟨h.kT, h.gT, h.qM, fun o ho => ?_, fun o ho => ?_, fun o ho => ?_, fun o p ho hp => ?_⟩
  · dsimp only; rw [(e o ho).1, (e o ho).2]; exact h.run o ho
  · dsimp only; rw [(e o ho).1, (e o ho).2]; exact h.blk o ho
  · dsimp only; rw [(e o ho).1, (e o ho).2]; exact h.own o ho
  · dsimp only; rw [(e o ho).1, (e o ho).2, (e p hp).1, (e p hp).2]; exact h.dis o p ho hp
theorem Ap.take {A : Ar} {G K Q : Nat → Bool} (h : Ap A G K Q) {o x y : Nat} (ho : RS o) (hxy : x < y) (hy : y ≤ 16 * A.nb) (hb : y ≤ (x / 16 + 1) * 16) (hf : ∀ l, x ≤ l → l < y → A.T l = false) : Ap (A.tak o x y) G K Q := by
  have e1 := (upd2_o A.F o ((16 * x : Nat) : Int) ((16 * y : Nat) : Int))
  have e2 : ∀ p, RS p → p ≠ o → upd (upd A.F o ((16 * x : Nat) : Int)) (o + 1) ((16 * y : Nat) : Int) p = A.F p ∧ upd (upd A.F o ((16 * x : Nat) : Int)) (o + 1) ((16 * y : Nat) : Int) (p + 1) = A.F (p + 1) := fun p hp hne => by
    obtain ⟨n1, n2, n3, -, -⟩ := ho.ne hp hne
    exact ⟨by rw [upd_else _ _ n1, upd_else _ _ hne], by rw [upd_else _ _ n3, upd_else _ _ n2]⟩
  have hT : ∀ l, A.T l = true → tk A.T x y l = true := fun l hl => tk_true.2 (.inl hl)
  have hnew : ∀ i : Nat, ((16 * x : Nat) : Int) ≤ (i : Int) → (i : Int) < ((16 * y : Nat) : Int) → x ≤ i / 16 ∧ i / 16 < y ∧ i < 256 * A.nb := fun i h1 h2 => by omega
  refine ⟨fun l hl hk => hT l (h.kT l hl hk), fun i hi hg => hT _ (h.gT i hi hg), h.qM, fun p hp => ?_, fun p hp => ?_, fun p hp => ?_, fun p q hp hq hne => ?_⟩
  · dsimp only
    by_cases e : p = o
    · subst e; rw [e1.1, e1.2]; omega
    · rw [(e2 p hp e).1, (e2 p hp e).2]; exact h.run p hp
  · dsimp only
    by_cases e : p = o
    · subst e; rw [e1.1, e1.2]; omega
    · rw [(e2 p hp e).1, (e2 p hp e).2]; exact h.blk p hp
  · dsimp only
    by_cases e : p = o
    · subst e
      rw [e1.1, e1.2]
      intro i h1 h2
      obtain ⟨h3, h4, h5⟩ := hnew i h1 h2
      have hfr := hf _ h3 h4
      refine ⟨tk_true.2 (.inr ⟨h3, h4⟩), ?_, ?_⟩
      · cases hk : K (i / 16)
        · rfl
        · rw [h.kT _ (by omega) hk] at hfr; cases hfr
      · cases hg : G i
        · rfl
        · rw [h.gT _ h5 hg] at hfr; cases hfr
    · rw [(e2 p hp e).1, (e2 p hp e).2]
      intro i h1 h2
      obtain ⟨h3, h4, h5⟩ := h.own p hp i h1 h2
      exact ⟨hT _ h3, h4, h5⟩
  · dsimp only
    intro i
    by_cases e : p = o
    · subst e
      rw [e1.1, e1.2, (e2 q hq hne).1, (e2 q hq hne).2]
      intro h1 h2 h3 h4
      obtain ⟨h5, h6, -⟩ := hnew i h1 h2
      have := (h.own q hq i h3 h4).1
      rw [hf _ h5 h6] at this
      cases this
    · by_cases e' : q = o
      · subst e'
        rw [e1.1, e1.2, (e2 p hp e).1, (e2 p hp e).2]
        intro h1 h2 h3 h4
        obtain ⟨h5, h6, -⟩ := hnew i h3 h4
        have := (h.own p hp i h1 h2).1
        rw [hf _ h5 h6] at this
        cases this
      · rw [(e2 p hp e).1, (e2 p hp e).2, (e2 q hq e').1, (e2 q hq e').2]
        exact h.dis p q hp hq hne i
/-- what is told: n0 the place of n words -/
def Told (nb : Nat) (G K : Nat → Bool) (n0 n : Nat) : Prop := n0 + n ≤ 256 * nb ∧ n0 / 256 = (n0 + n - 1) / 256 ∧ ∀ i, n0 ≤ i → i < n0 + n → G i = false ∧ K (i / 16) = false
theorem Ap.cut {A : Ar} {G K Q : Nat → Bool} (h : Ap A G K Q) {o n : Nat} (ho : RS o) (hn : 1 ≤ n) (hf : (n : Int) ≤ A.F (o + 1) - A.F o) : ∃ n0 : Nat, A.F o = (n0 : Int) ∧ Told A.nb G K n0 n ∧ Ap (A.cut o n) (tk G n0 (n0 + n)) K Q := by
  obtain ⟨r1, r2, r3⟩ := h.run o ho
  obtain ⟨n0, hn0⟩ := Int.eq_ofNat_of_zero_le r1
  have hbl := h.blk o ho (by omega)
  have e1 : upd A.F o (A.F o + (n : Int)) o = A.F o + (n : Int) := upd_same _ _ _
  have e1' : upd A.F o (A.F o + (n : Int)) (o + 1) = A.F (o + 1) := upd_else _ _ (by omega)
  have e2 : ∀ p, RS p → p ≠ o → upd A.F o (A.F o + (n : Int)) p = A.F p ∧ upd A.F o (A.F o + (n : Int)) (p + 1) = A.F (p + 1) := fun p hp hne => by
    obtain ⟨n1, n2, n3, -, -⟩ := ho.ne hp hne
    exact ⟨upd_else _ _ hne, upd_else _ _ n2⟩
  refine ⟨n0, hn0, ⟨by omega, by omega, fun i h1 h2 => ?_⟩, ⟨h.kT, fun i hi hg => ?_, h.qM, fun p hp => ?_, fun p hp => ?_, fun p hp => ?_, fun p q hp hq hne => ?_⟩⟩
  · obtain ⟨h3, h4, h5⟩ := h.own o ho i (by omega) (by omega)
    exact ⟨h5, h4⟩
  · rcases tk_true.1 hg with hg | ⟨h1, h2⟩
    · exact h.gT i hi hg
    · exact (h.own o ho i (by omega) (by omega)).1
  · dsimp only
    by_cases e : p = o
    · subst e; rw [e1, e1']; omega
    · rw [(e2 p hp e).1, (e2 p hp e).2]; exact h.run p hp
  · dsimp only
    by_cases e : p = o
    · subst e; rw [e1, e1']; intro hlt; omega
    · rw [(e2 p hp e).1, (e2 p hp e).2]; exact h.blk p hp
  · dsimp only
    have key : ∀ i : Nat, G i = false → ¬ (n0 ≤ i ∧ i < n0 + n) → tk G n0 (n0 + n) i = false := fun i hg hni => by
      cases ht : tk G n0 (n0 + n) i
      · rfl
      · rcases tk_true.1 ht with h1 | h1
        · rw [hg] at h1; cases h1
        · exact absurd h1 hni
    by_cases e : p = o
    · subst e
      rw [e1, e1']
      intro i h1 h2
      obtain ⟨h3, h4, h5⟩ := h.own p hp i (by omega) h2
      exact ⟨h3, h4, key i h5 (by omega)⟩
    · rw [(e2 p hp e).1, (e2 p hp e).2]
      intro i h1 h2
      obtain ⟨h3, h4, h5⟩ := h.own p hp i h1 h2
      exact ⟨h3, h4, key i h5 (fun hh => h.dis o p ho hp e i (by omega) (by omega) h1 h2)⟩
  · dsimp only
    intro i
    by_cases e : p = o
    · subst e
      rw [e1, e1', (e2 q hq hne).1, (e2 q hq hne).2]
      intro h1 h2 h3 h4
      exact h.dis p q hp hq hne i (by omega) h2 h3 h4
    · by_cases e' : q = o
      · subst e'
        rw [e1, e1', (e2 p hp e).1, (e2 p hp e).2]
        intro h1 h2 h3 h4
        exact h.dis p q hp hq hne i h1 h2 (by omega) h4
      · rw [(e2 p hp e).1, (e2 p hp e).2, (e2 q hq e').1, (e2 q hq e').2]
        exact h.dis p q hp hq hne i
/-- what comes of asking for words -/
def Asked (A : Ar) (G K Q : Nat → Bool) (n : Nat) (r : Int × Bool) (A' : Ar) : Prop :=
  (r = (0, false) ∧ A' = A) ∨ (∃ n0 : Nat, r = ((n0 : Int), true) ∧ Told A.nb G K n0 n ∧ Ap A' (tk G n0 (n0 + n)) K Q ∧ A'.nb = A.nb ∧ A'.blks = A.blks)
theorem asked_S {A : Ar} {G K Q : Nat → Bool} (h : Ap A G K Q) {nx n : Nat} (hn : 1 ≤ n) : Asked A G K Q n (alcS A nx n).1 (alcS A nx n).2.1 := by
  by_cases hf : (n : Int) ≤ A.F 4 - A.F 3
  · have hv : alcS A nx n = ((A.F 3, true), A.cut 3 n, nx) := if_pos hf
    rw [hv]
    obtain ⟨n0, h1, h2, h3⟩ := h.cut (.inl rfl) hn hf
    exact .inr ⟨n0, by rw [h1], h2, h3, rfl, rfl⟩
  · cases hR : findH A.T (16 * A.nb) n (16 * A.nb) nx with
    | none => rw [alcS_none hf hR]; exact .inl ⟨rfl, rfl⟩
    | some p =>
      obtain ⟨x, y⟩ := p
      rw [alcS_some hf hR]
      obtain ⟨r1, r2, r3, r4, r5, r6, r7⟩ := findH_some A.T A.nb n hn _ _ _ _ hR
      have h9 := (h.take (o := 3) (.inl rfl) r2 r3 r4 r6).nine ((16 * y : Nat) : Int)
      have e3 : upd (upd (upd A.F 3 ((16 * x : Nat) : Int)) (3 + 1) ((16 * y : Nat) : Int)) 9 ((16 * y : Nat) : Int) 3 = ((16 * x : Nat) : Int) := by simp [upd]
      have e4 : upd (upd (upd A.F 3 ((16 * x : Nat) : Int)) (3 + 1) ((16 * y : Nat) : Int)) 9 ((16 * y : Nat) : Int) (3 + 1) = ((16 * y : Nat) : Int) := by simp [upd]
      obtain ⟨n0, h1, h2, h3⟩ := h9.cut (o := 3) (n := n) (.inl rfl) hn (by dsimp only; rw [e3, e4]; omega)
      dsimp only at h1
      rw [e3] at h1
      exact .inr ⟨n0, by rw [← h1], h2, h3, rfl, rfl⟩
theorem asked_blk {A : Ar} {G K Q : Nat → Bool} (h : Ap A G K Q) {o n x y : Nat} (ho : RS o) (hn : 1 ≤ n) (hxy : x < y) (hy : y ≤ 16 * A.nb) (hb : y ≤ (x / 16 + 1) * 16) (hf : ∀ l, x ≤ l → l < y → A.T l = false) (hfit : n ≤ 16 * (y - x)) :
    Asked A G K Q n (((16 * x : Nat) : Int), true) ((A.tak o x y).cut o n) := by
  have h9 := h.take ho hxy hy hb hf
  have e := upd2_o A.F o ((16 * x : Nat) : Int) ((16 * y : Nat) : Int)
  obtain ⟨n0, h1, h2, h3⟩ := h9.cut (o := o) (n := n) ho hn (by dsimp only; rw [e.1, e.2]; omega)
  dsimp only at h1
  rw [e.1] at h1
  exact .inr ⟨n0, by rw [← h1], h2, h3, rfl, rfl⟩
theorem last_blk {A : Ar} {k : Nat} (h : lastE A.T A.nb = some k) : 16 * k < 16 * k + 16 ∧ 16 * k + 16 ≤ 16 * A.nb ∧ 16 * k + 16 ≤ (16 * k / 16 + 1) * 16 ∧ ∀ l, 16 * k ≤ l → l < 16 * k + 16 → A.T l = false := by
  obtain ⟨h1, h2⟩ := lastE_some h
  refine ⟨by omega, by omega, by omega, fun l h3 h4 => ?_⟩
  have := (emp_iff A.T k).1 h2 (l - 16 * k) (by omega)
  rwa [show 16 * k + (l - 16 * k) = l by omega] at this
theorem asked_G {A : Ar} {G K Q : Nat → Bool} (h : Ap A G K Q) {n : Nat} (hn : 1 ≤ n) (hn2 : n ≤ 256) : Asked A G K Q n (alcG A n).1 (alcG A n).2 := by
  by_cases hf : (n : Int) ≤ A.F 6 - A.F 5
  · have hv : alcG A n = ((A.F 5, true), A.cut 5 n) := if_pos hf
    rw [hv]
    obtain ⟨n0, h1, h2, h3⟩ := h.cut (.inr (.inl rfl)) hn hf
    exact .inr ⟨n0, by rw [h1], h2, h3, rfl, rfl⟩
  · cases hR : lastE A.T A.nb with
    | some k =>
      rw [alcG_blk hf hR]
      obtain ⟨l1, l2, l3, l4⟩ := last_blk hR
      exact asked_blk h (.inr (.inl rfl)) hn l1 l2 l3 l4 (by omega)
    | none =>
      cases hH : findH A.T (16 * A.nb) n (16 * A.nb) 0 with
      | none => rw [alcG_none hf hR hH]; exact .inl ⟨rfl, rfl⟩
      | some p =>
        obtain ⟨x, y⟩ := p
        rw [alcG_some hf hR hH]
        obtain ⟨r1, r2, r3, r4, r5, r6, r7⟩ := findH_some A.T A.nb n hn _ _ _ _ hH
        exact asked_blk h (.inr (.inl rfl)) hn r2 r3 r4 r6 r5
theorem asked_F {A : Ar} {G K Q : Nat → Bool} (h : Ap A G K Q) {n : Nat} (hn : 1 ≤ n) (hn2 : n ≤ 256) : Asked A G K Q n (fre A n).1 (fre A n).2 := by
  by_cases hf : (n : Int) ≤ A.F 8 - A.F 7
  · have hv : fre A n = ((A.F 7, true), A.cut 7 n) := if_pos hf
    rw [hv]
    obtain ⟨n0, h1, h2, h3⟩ := h.cut (.inr (.inr rfl)) hn hf
    exact .inr ⟨n0, by rw [h1], h2, h3, rfl, rfl⟩
  · cases hR : lastE A.T A.nb with
    | some k =>
      rw [fre_blk hf hR]
      obtain ⟨l1, l2, l3, l4⟩ := last_blk hR
      exact asked_blk h (.inr (.inr rfl)) hn l1 l2 l3 l4 (by omega)
    | none => rw [fre_none hf hR]; exact .inl ⟨rfl, rfl⟩
theorem nine_G (A : Ar) (n : Nat) : (alcG A n).2.F 9 = A.F 9 := by
  unfold alcG
  split
  · simp [upd]
  · split
    · simp [upd]
    · split
      · rfl
      · simp [upd]
theorem nine_F (A : Ar) (n : Nat) : (fre A n).2.F 9 = A.F 9 := by
  unfold fre
  split
  · simp [upd]
  · split
    · simp [upd]
    · rfl
theorem Ap.swept {A : Ar} {G K Q : Nat → Bool} (h : Ap A G K Q) : Ap A.swept (fun _ => false) Q (fun _ => false) :=
  ⟨h.qM, fun _ _ h => (by cases h), fun _ _ h => (by cases h), fun o _ => ⟨Int.le_refl _, Int.le_refl _, by show (0 : Int) ≤ _; omega⟩, fun o _ h => absurd h (Int.lt_irrefl _), fun o _ i h1 h2 => absurd (Int.lt_of_le_of_lt h1 h2) (Int.lt_irrefl _), fun o p _ _ _ i h1 h2 _ _ => absurd (Int.lt_of_le_of_lt h1 h2) (Int.lt_irrefl _)⟩
theorem Ap.mark {A : Ar} {G K Q : Nat → Bool} (h : Ap A G K Q) (x n : Int) : Ap { A with M := mkM A.M x n } G K (mkM Q x n) :=
  ⟨h.kT, h.gT, fun l hl hq => by
    dsimp only
    unfold mkM at hq ⊢
    rw [Bool.or_eq_true] at hq ⊢
    rcases hq with hq | hq
    · exact .inl (h.qM l hl hq)
    · exact .inr hq, h.run, h.blk, h.own, h.dis⟩
theorem Ap.start (nb b wb tb mb : Nat) : Ap (Ar.new nb b wb tb mb) (fun _ => false) (fun _ => false) (fun _ => false) :=
  ⟨fun _ _ h => (by cases h), fun _ _ h => (by cases h), fun _ _ h => (by cases h), fun o _ => ⟨Int.le_refl _, Int.le_refl _, by show (0 : Int) ≤ _; omega⟩, fun o _ h => absurd h (Int.lt_irrefl _), fun o _ i h1 h2 => absurd (Int.lt_of_le_of_lt h1 h2) (Int.lt_irrefl _), fun o p _ _ _ i h1 h2 _ _ => absurd (Int.lt_of_le_of_lt h1 h2) (Int.lt_irrefl _)⟩
theorem mkM_step (Q : Nat → Bool) {x i : Nat} (h : x ≤ i) : upd (mkM Q (x : Int) ((i : Int) - (x : Int))) (i / 16) true = mkM Q (x : Int) (((i + 1 : Nat) : Int) - (x : Int)) := by
  funext l
  unfold upd mkM
  by_cases e : l = i / 16
  · subst e
    rw [if_pos rfl, decide_eq_true (by omega : 1 ≤ ((i + 1 : Nat) : Int) - (x : Int)), decide_eq_true (by omega : (x : Int) < 16 * ((i / 16 : Nat) : Int) + 16), decide_eq_true (by omega : 16 * ((i / 16 : Nat) : Int) < (x : Int) + (((i + 1 : Nat) : Int) - (x : Int)))]
    simp
  · rw [if_neg e]
    congr 1
    rw [Bool.eq_iff_iff]
    simp only [Bool.and_eq_true, decide_eq_true_eq]
    omega
end LM
end Go.Proofs.Ytghnaiinhbdgcaa
