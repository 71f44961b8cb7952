/- Walks of package arena: Alloc of many words, Fresh. Written by genGc.py. -/
import Derived.Test.YtghnaiinhbdgcaaArenaGb
namespace Go.Proofs.Ytghnaiinhbdgcaa
open Go Go.RowKit
namespace LM
set_option linter.unusedVariables false

theorem alcG_blk {A : Ar} {n k : Nat} (hf : ¬ (n : Int) ≤ A.F 6 - A.F 5) (hR : lastE A.T A.nb = some k) : alcG A n = ((((16 * (16 * k) : Nat) : Int), true), (A.tak 5 (16 * k) (16 * k + 16)).cut 5 n) := by
  unfold alcG
  rw [if_neg hf, hR]
theorem alcG_none {A : Ar} {n : Nat} (hf : ¬ (n : Int) ≤ A.F 6 - A.F 5) (hR : lastE A.T A.nb = none) (hH : findH A.T (16 * A.nb) n (16 * A.nb) 0 = none) : alcG A n = ((0, false), A) := by
  unfold alcG
  rw [if_neg hf, hR]
  dsimp only
  rw [hH]
theorem alcG_some {A : Ar} {n x y : Nat} (hf : ¬ (n : Int) ≤ A.F 6 - A.F 5) (hR : lastE A.T A.nb = none) (hH : findH A.T (16 * A.nb) n (16 * A.nb) 0 = some (x, y)) : alcG A n = ((((16 * x : Nat) : Int), true), (A.tak 5 x y).cut 5 n) := by
  unfold alcG
  rw [if_neg hf, hR]
  dsimp only
  rw [hH]
theorem fre_blk {A : Ar} {n k : Nat} (hf : ¬ (n : Int) ≤ A.F 8 - A.F 7) (hR : lastE A.T A.nb = some k) : fre A n = ((((16 * (16 * k) : Nat) : Int), true), (A.tak 7 (16 * k) (16 * k + 16)).cut 7 n) := by
  unfold fre
  rw [if_neg hf, hR]
theorem fre_none {A : Ar} {n : Nat} (hf : ¬ (n : Int) ≤ A.F 8 - A.F 7) (hR : lastE A.T A.nb = none) : fre A n = ((0, false), A) := by
  unfold fre
  rw [if_neg hf, hR]
theorem upd2_o (F : Nat → Int) (o : Nat) (a b : Int) : upd (upd F o a) (o + 1) b o = a ∧ upd (upd F o a) (o + 1) b (o + 1) = b := by
  unfold upd
  constructor
  · rw [if_neg (by omega), if_pos rfl]
  · rw [if_pos rfl]
/-- behind a run's being taken: what cut does -/
theorem cut_taken (A : Ar) (o x y n P Q : Nat) (w : World) (h : AR w (A.tak o x y)) (o3 : 3 ≤ o) (o8 : o ≤ 8) (hP : 16 * x = P) (hQ : 16 * y = Q) (hb : P ≤ 1048576 ∧ Q ≤ 1048576) (hn : (n : Int) ≤ (Q : Int) - (P : Int)) :
    Calls Try.prog 22 #[.pointer (some ⟨A.b, o, none⟩), .int .i64 (n : Int)] w fun e w' => e = .returned (.tuple #[.int .i64 (P : Int), .bool true]) ∧ AR w' ((A.tak o x y).cut o n) ∧ Mv w w' A.blks := by
  subst hP hQ
  have e := upd2_o A.F o ((16 * x : Nat) : Int) ((16 * y : Nat) : Int)
  have k3 := h.cF o o3 (by omega)
  have k4 := h.cF (o + 1) (by omega) (by omega)
  dsimp only at k3 k4
  rw [e.1] at k3
  rw [e.2] at k4
  refine (acut_yes A.b o _ _ n w k3 k4 (h.fA o) (by omega) (by omega) (by omega) (by omega) hn).mono ?_
  rintro e' w5 ⟨rfl, w1, mm, hs⟩
  have FF := h.cutW (n := n) e.1 o3 mm hs
  exact ⟨rfl, FF.1, FF.2⟩
/-- cut of a run that has enough -/
theorem cut_fit (A : Ar) (o n : Nat) (X Y : Int) (w : World) (h : AR w A) (o3 : 3 ≤ o) (o8 : o ≤ 8) (hX : A.F o = X) (hY : A.F (o + 1) = Y) (hb : 0 ≤ X ∧ X ≤ 1048576 ∧ 0 ≤ Y ∧ Y ≤ 1048576) (hn : (n : Int) ≤ Y - X) :
    Calls Try.prog 22 #[.pointer (some ⟨A.b, o, none⟩), .int .i64 (n : Int)] w fun e w' => e = .returned (.tuple #[.int .i64 X, .bool true]) ∧ AR w' (A.cut o n) ∧ Mv w w' A.blks := by
  have k3 := h.cF o o3 (by omega)
  have k4 := h.cF (o + 1) (by omega) (by omega)
  rw [hX] at k3
  rw [hY] at k4
  refine (acut_yes A.b o X Y n w k3 k4 (h.fA o) hb.1 hb.2.1 hb.2.2.1 hb.2.2.2 hn).mono ?_
  rintro e' w5 ⟨rfl, w1, mm, hs⟩
  have FF := h.cutW (n := n) hX o3 mm hs
  exact ⟨rfl, FF.1, FF.2⟩
/-- cut of a run that hasn't -/
theorem cut_not (A : Ar) (o n : Nat) (X Y : Int) (w : World) (h : AR w A) (o3 : 3 ≤ o) (o8 : o ≤ 8) (hX : A.F o = X) (hY : A.F (o + 1) = Y) (hb : 0 ≤ X ∧ X ≤ 1048576 ∧ 0 ≤ Y ∧ Y ≤ 1048576) (hn : Y - X < (n : Int)) :
    Calls Try.prog 22 #[.pointer (some ⟨A.b, o, none⟩), .int .i64 (n : Int)] w fun e w' => e = .returned (.tuple #[.int .i64 0, .bool false]) ∧ AR w' A ∧ Mv w w' A.blks := by
  have k3 := h.cF o o3 (by omega)
  have k4 := h.cF (o + 1) (by omega) (by omega)
  rw [hX] at k3
  rw [hY] at k4
  refine (acut_no A.b o X Y n w k3 k4 hb.1 hb.2.1 hb.2.2.1 hb.2.2.2 hn).mono ?_
  rintro e' w5 ⟨rfl, mm⟩
  exact ⟨rfl, h.mv mm (by simp), mm.mono (by simp)⟩

set_option maxRecDepth 100000 in
set_option maxHeartbeats 4000000 in
theorem aallocG (A : Ar) (nx n : Nat) (w : World) (h : AR w A) (hw : Wf A nx) (hn : 17 ≤ n) (hn2 : n ≤ 256) :
    Calls Try.prog 12 #[.pointer (some ⟨A.b, 0, none⟩), .int .i64 (n : Int)] w fun e w' => e = .returned (.tuple #[.int .i64 (alcG A n).1.1, .bool (alcG A n).1.2]) ∧ AR w' (alcG A n).2 ∧ Mv w w' A.blks := by
  have d0 : decide ((n : Int) < 1) = false := decide_eq_false (by omega)
  have d1 : decide ((256 : Int) < (n : Int)) = false := decide_eq_false (by omega)
  have d2 : decide ((16 : Int) < (n : Int)) = true := decide_eq_true (by omega)
  have d2' : decide (16 < n) = true := decide_eq_true (by omega)
  have d0' : decide (n < 1) = false := decide_eq_false (by omega)
  have d1' : decide (256 < n) = false := decide_eq_false (by omega)
  have c3 := h.cF 5 (by decide) (by decide)
  have c4 := h.cF 6 (by decide) (by decide)
  have hb := hw.b5
  obtain ⟨X, hX⟩ : ∃ X, A.F 5 = X := ⟨_, rfl⟩
  obtain ⟨Y, hY⟩ : ∃ Y, A.F 6 = Y := ⟨_, rfl⟩
  rw [hX] at c3 hb
  rw [hY] at c4 hb
  have LE := Lib.hid fun W => aleft X Y W hb.1 hb.2.1 hb.2.2.1 hb.2.2.2
  have HH := Lib.hid h
  have HN2 := Lib.hid h.n2
  by_cases hf : (n : Int) ≤ A.F 6 - A.F 5
  · have hv : alcG A n = ((A.F 5, true), A.cut 5 n) := if_pos hf
    rw [hv]
    dsimp only
    rw [hX, hY] at hf
    rw [hX]
    have d3 : decide (Y - X < (n : Int)) = false := decide_eq_false (by clear d0 d1; omega)
    have CU := Lib.hid fun W hW => cut_fit A 5 n X Y W hW (by decide) (by decide) hX hY hb hf
    clear hb hf hv hX hY h hw hn hn2
    go_enter Try.func12, Try.ntmps12
    go_wp2_with (fail)
    refine (LE.out _).mono ?_
    rintro e w2 ⟨rfl, m2⟩
    have CV := Lib.hid (CU.out w2 (HH.out.mv m2 (by simp)))
    have M2 := Lib.hid (m2.mono (L' := A.blks) (by simp))
    clear m2
    go_wp2_with (fail)
    refine CV.out.mono ?_
    rintro e w3 ⟨rfl, hA3, hm3⟩
    have FF := Lib.hid (And.intro hA3 (M2.out.trans hm3))
    clear hA3 hm3
    go_wp2_with (fail)
    go_returns
    exact ⟨rfl, FF.out⟩
  · have d3 : decide (Y - X < (n : Int)) = true := decide_eq_true (by rw [hX, hY] at hf; clear d0 d1; omega)
    have TB := Lib.hid fun W (hW : AR W A) => atakeB A 5 W hW (by decide) (by decide)
    cases hR : lastE A.T A.nb with
    | some k =>
      rw [alcG_blk hf hR]
      dsimp only
      rw [hR] at TB
      have hkb := (lastE_some hR).1
      obtain ⟨P, hP⟩ : ∃ P, 16 * (16 * k) = P := ⟨_, rfl⟩
      obtain ⟨Q, hQ⟩ : ∃ Q, 16 * (16 * k + 16) = Q := ⟨_, rfl⟩
      have hn3 := HN2.out
      have CU := Lib.hid fun W hW => cut_taken A 5 (16 * k) (16 * k + 16) n P Q W hW (by decide) (by decide) hP hQ (by omega) (by omega)
      rw [hP]
      clear hb hf hX hY h hw hn hn2 hR hkb hP hQ hn3
      go_enter Try.func12, Try.ntmps12
      go_wp2_with (fail)
      refine (LE.out _).mono ?_
      rintro e w2 ⟨rfl, m2⟩
      have TV := Lib.hid (TB.out w2 (HH.out.mv m2 (by simp)))
      have M2 := Lib.hid (m2.mono (L' := A.blks) (by simp))
      clear m2
      go_wp2_with (fail)
      refine TV.out.mono ?_
      rintro e w3 hr
      obtain ⟨rfl, hA3, hm3⟩ := hr
      have CV := Lib.hid (CU.out w3 hA3)
      have M3 := Lib.hid (M2.out.trans hm3)
      clear hA3 hm3
      go_wp2_with (fail)
      refine CV.out.mono ?_
      rintro e w4 ⟨rfl, hA4, hm4⟩
      have FF := Lib.hid (And.intro hA4 (M3.out.trans hm4))
      clear hA4 hm4
      go_wp2_with (fail)
      go_returns
      exact ⟨rfl, FF.out⟩
    | none =>
      rw [hR] at TB
      have TH := Lib.hid fun W (hW : AR W A) => atakeH A 5 0 n 0 W hW (by decide) (by decide) (Nat.le_trans (by decide) hn) hn2 rfl (Nat.zero_le _)
      cases hH : findH A.T (16 * A.nb) n (16 * A.nb) 0 with
      | none =>
        rw [alcG_none hf hR hH]
        dsimp only
        rw [hH] at TH
        have CU := Lib.hid fun W hW => cut_not A 5 n X Y W hW (by decide) (by decide) hX hY hb (by rw [hX, hY] at hf; clear d0 d1; omega)
        clear hb hf hX hY h hw hn hn2 hR hH
        go_enter Try.func12, Try.ntmps12
        go_wp2_with (fail)
        refine (LE.out _).mono ?_
        rintro e w2 ⟨rfl, m2⟩
        have TV := Lib.hid (TB.out w2 (HH.out.mv m2 (by simp)))
        have M2 := Lib.hid (m2.mono (L' := A.blks) (by simp))
        clear m2
        go_wp2_with (fail)
        refine TV.out.mono ?_
        rintro e w3 hr
        obtain ⟨rfl, hA3, hm3⟩ := hr
        have TW := Lib.hid (TH.out w3 hA3)
        have M3 := Lib.hid (M2.out.trans hm3)
        clear hA3 hm3
        go_wp2_with (fail)
        refine TW.out.mono ?_
        rintro e w5 hr
        obtain ⟨rfl, hA5, hm5⟩ := hr
        have CV := Lib.hid (CU.out w5 hA5)
        have M5 := Lib.hid (M3.out.trans hm5)
        clear hA5 hm5
        go_wp2_with (fail)
        refine CV.out.mono ?_
        rintro e w4 ⟨rfl, hA4, hm4⟩
        have FF := Lib.hid (And.intro hA4 (M5.out.trans hm4))
        clear hA4 hm4
        go_wp2_with (fail)
        go_returns
        exact ⟨rfl, FF.out⟩
      | some p =>
        obtain ⟨x, y⟩ := p
        rw [alcG_some hf hR hH]
        dsimp only
        rw [hH] at TH
        obtain ⟨r1, r2, r3, r4, r5, r6, r7⟩ := findH_some A.T A.nb n (Nat.le_trans (by decide) hn) _ _ _ _ hH
        obtain ⟨P, hP⟩ : ∃ P, 16 * x = P := ⟨_, rfl⟩
        obtain ⟨Q, hQ⟩ : ∃ Q, 16 * y = Q := ⟨_, rfl⟩
        have hn3 := HN2.out
        have CU := Lib.hid fun W hW => cut_taken A 5 x y n P Q W hW (by decide) (by decide) hP hQ (by omega) (by omega)
        rw [hP]
        clear hb hf hX hY h hw hn hn2 hR hH r1 r2 r3 r4 r5 r6 r7 hP hQ hn3
        go_enter Try.func12, Try.ntmps12
        go_wp2_with (fail)
        refine (LE.out _).mono ?_
        rintro e w2 ⟨rfl, m2⟩
        have TV := Lib.hid (TB.out w2 (HH.out.mv m2 (by simp)))
        have M2 := Lib.hid (m2.mono (L' := A.blks) (by simp))
        clear m2
        go_wp2_with (fail)
        refine TV.out.mono ?_
        rintro e w3 hr
        obtain ⟨rfl, hA3, hm3⟩ := hr
        have TW := Lib.hid (TH.out w3 hA3)
        have M3 := Lib.hid (M2.out.trans hm3)
        clear hA3 hm3
        go_wp2_with (fail)
        refine TW.out.mono ?_
        rintro e w5 hr
        obtain ⟨rfl, hA5, hm5⟩ := hr
        have CV := Lib.hid (CU.out w5 hA5)
        have M5 := Lib.hid (M3.out.trans hm5)
        clear hA5 hm5
        go_wp2_with (fail)
        refine CV.out.mono ?_
        rintro e w4 ⟨rfl, hA4, hm4⟩
        have FF := Lib.hid (And.intro hA4 (M5.out.trans hm4))
        clear hA4 hm4
        go_wp2_with (fail)
        go_returns
        exact ⟨rfl, FF.out⟩

set_option maxRecDepth 100000 in
set_option maxHeartbeats 4000000 in
theorem afresh (A : Ar) (nx n : Nat) (w : World) (h : AR w A) (hw : Wf A nx) (hn : 1 ≤ n) (hn2 : n ≤ 256) :
    Calls Try.prog 13 #[.pointer (some ⟨A.b, 0, none⟩), .int .i64 (n : Int)] w fun e w' => e = .returned (.tuple #[.int .i64 (fre A n).1.1, .bool (fre A n).1.2]) ∧ AR w' (fre A n).2 ∧ Mv w w' A.blks := by
  have d0 : decide ((n : Int) < 1) = false := decide_eq_false (by omega)
  have d1 : decide ((256 : Int) < (n : Int)) = false := decide_eq_false (by omega)
  have d0' : decide (n < 1) = false := decide_eq_false (by omega)
  have d1' : decide (256 < n) = false := decide_eq_false (by omega)
  have c3 := h.cF 7 (by decide) (by decide)
  have c4 := h.cF 8 (by decide) (by decide)
  have hb := hw.b7
  obtain ⟨X, hX⟩ : ∃ X, A.F 7 = X := ⟨_, rfl⟩
  obtain ⟨Y, hY⟩ : ∃ Y, A.F 8 = Y := ⟨_, rfl⟩
  rw [hX] at c3 hb
  rw [hY] at c4 hb
  have LE := Lib.hid fun W => aleft X Y W hb.1 hb.2.1 hb.2.2.1 hb.2.2.2
  have HH := Lib.hid h
  have HN2 := Lib.hid h.n2
  by_cases hf : (n : Int) ≤ A.F 8 - A.F 7
  · have hv : fre A n = ((A.F 7, true), A.cut 7 n) := if_pos hf
    rw [hv]
    dsimp only
    rw [hX, hY] at hf
    rw [hX]
    have d3 : decide (Y - X < (n : Int)) = false := decide_eq_false (by clear d0 d1; omega)
    have CU := Lib.hid fun W hW => cut_fit A 7 n X Y W hW (by decide) (by decide) hX hY hb hf
    clear hb hf hv hX hY h hw hn hn2
    go_enter Try.func13, Try.ntmps13
    go_wp2_with (fail)
    refine (LE.out _).mono ?_
    rintro e w2 ⟨rfl, m2⟩
    have CV := Lib.hid (CU.out w2 (HH.out.mv m2 (by simp)))
    have M2 := Lib.hid (m2.mono (L' := A.blks) (by simp))
    clear m2
    go_wp2_with (fail)
    refine CV.out.mono ?_
    rintro e w3 ⟨rfl, hA3, hm3⟩
    have FF := Lib.hid (And.intro hA3 (M2.out.trans hm3))
    clear hA3 hm3
    go_wp2_with (fail)
    go_returns
    exact ⟨rfl, FF.out⟩
  · have d3 : decide (Y - X < (n : Int)) = true := decide_eq_true (by rw [hX, hY] at hf; clear d0 d1; omega)
    have TB := Lib.hid fun W (hW : AR W A) => atakeB A 7 W hW (by decide) (by decide)
    cases hR : lastE A.T A.nb with
    | some k =>
      rw [fre_blk hf hR]
      dsimp only
      rw [hR] at TB
      have hkb := (lastE_some hR).1
      obtain ⟨P, hP⟩ : ∃ P, 16 * (16 * k) = P := ⟨_, rfl⟩
      obtain ⟨Q, hQ⟩ : ∃ Q, 16 * (16 * k + 16) = Q := ⟨_, rfl⟩
      have hn3 := HN2.out
      have CU := Lib.hid fun W hW => cut_taken A 7 (16 * k) (16 * k + 16) n P Q W hW (by decide) (by decide) hP hQ (by omega) (by omega)
      rw [hP]
      clear hb hf hX hY h hw hn hn2 hR hkb hP hQ hn3
      go_enter Try.func13, Try.ntmps13
      go_wp2_with (fail)
      refine (LE.out _).mono ?_
      rintro e w2 ⟨rfl, m2⟩
      have TV := Lib.hid (TB.out w2 (HH.out.mv m2 (by simp)))
      have M2 := Lib.hid (m2.mono (L' := A.blks) (by simp))
      clear m2
      go_wp2_with (fail)
      refine TV.out.mono ?_
      rintro e w3 hr
      obtain ⟨rfl, hA3, hm3⟩ := hr
      have CV := Lib.hid (CU.out w3 hA3)
      have M3 := Lib.hid (M2.out.trans hm3)
      clear hA3 hm3
      go_wp2_with (fail)
      refine CV.out.mono ?_
      rintro e w4 ⟨rfl, hA4, hm4⟩
      have FF := Lib.hid (And.intro hA4 (M3.out.trans hm4))
      clear hA4 hm4
      go_wp2_with (fail)
      go_returns
      exact ⟨rfl, FF.out⟩
    | none =>
      rw [fre_none hf hR]
      dsimp only
      rw [hR] at TB
      have CU := Lib.hid fun W hW => cut_not A 7 n X Y W hW (by decide) (by decide) hX hY hb (by rw [hX, hY] at hf; clear d0 d1; omega)
      clear hb hf hX hY h hw hn hn2 hR
      go_enter Try.func13, Try.ntmps13
      go_wp2_with (fail)
      refine (LE.out _).mono ?_
      rintro e w2 ⟨rfl, m2⟩
      have TV := Lib.hid (TB.out w2 (HH.out.mv m2 (by simp)))
      have M2 := Lib.hid (m2.mono (L' := A.blks) (by simp))
      clear m2
      go_wp2_with (fail)
      refine TV.out.mono ?_
      rintro e w3 hr
      obtain ⟨rfl, hA3, hm3⟩ := hr
      have CV := Lib.hid (CU.out w3 hA3)
      have M3 := Lib.hid (M2.out.trans hm3)
      clear hA3 hm3
      go_wp2_with (fail)
      refine CV.out.mono ?_
      rintro e w4 ⟨rfl, hA4, hm4⟩
      have FF := Lib.hid (And.intro hA4 (M3.out.trans hm4))
      clear hA4 hm4
      go_wp2_with (fail)
      go_returns
      exact ⟨rfl, FF.out⟩

set_option maxRecDepth 100000 in
theorem aalloc_no (A : Ar) (n : Int) (w : World) (hn : n < 1 ∨ 256 < n) :
    Calls Try.prog 12 #[.pointer (some ⟨A.b, 0, none⟩), .int .i64 n] w fun e w' => e = .returned (.tuple #[.int .i64 0, .bool false]) ∧ w = w' := by
  by_cases h1 : n < 1
  · have d0 : decide (n < 1) = true := decide_eq_true h1
    clear hn h1
    go_enter Try.func12, Try.ntmps12
    go_wp2_with (fail)
    go_returns
    exact ⟨rfl, rfl⟩
  · have d0 : decide (n < 1) = false := decide_eq_false h1
    have d1 : decide (256 < n) = true := decide_eq_true (by omega)
    clear hn h1
    go_enter Try.func12, Try.ntmps12
    go_wp2_with (fail)
    go_returns
    exact ⟨rfl, rfl⟩

set_option maxRecDepth 100000 in
theorem afresh_no (A : Ar) (n : Int) (w : World) (hn : n < 1 ∨ 256 < n) :
    Calls Try.prog 13 #[.pointer (some ⟨A.b, 0, none⟩), .int .i64 n] w fun e w' => e = .returned (.tuple #[.int .i64 0, .bool false]) ∧ w = w' := by
  by_cases h1 : n < 1
  · have d0 : decide (n < 1) = true := decide_eq_true h1
    clear hn h1
    go_enter Try.func13, Try.ntmps13
    go_wp2_with (fail)
    go_returns
    exact ⟨rfl, rfl⟩
  · have d0 : decide (n < 1) = false := decide_eq_false h1
    have d1 : decide (256 < n) = true := decide_eq_true (by omega)
    clear hn h1
    go_enter Try.func13, Try.ntmps13
    go_wp2_with (fail)
    go_returns
    exact ⟨rfl, rfl⟩
end LM
end Go.Proofs.Ytghnaiinhbdgcaa
