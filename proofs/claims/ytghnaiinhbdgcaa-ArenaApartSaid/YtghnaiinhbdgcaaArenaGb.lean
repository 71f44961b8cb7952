/- Walks of package arena: Alloc of few words. Written by genG.py. -/
import Derived.Test.YtghnaiinhbdgcaaArenaG
import Derived.Deep.RegionHeld
namespace Go.Proofs.Ytghnaiinhbdgcaa
open Go Go.RowKit
namespace LM
set_option linter.unusedVariables false

set_option maxRecDepth 100000 in
set_option maxHeartbeats 4000000 in
theorem aallocS (A : Ar) (nx n : Nat) (w : World) (h : AR w A) (hw : Wf A nx) (hn : 1 ≤ n) (hn2 : n ≤ 16) :
    Calls Try.prog 12 #[.pointer (some ⟨A.b, 0, none⟩), .int .i64 (n : Int)] w fun e w' => e = .returned (.tuple #[.int .i64 (alcS A nx n).1.1, .bool (alcS A nx n).1.2]) ∧ AR w' (alcS A nx n).2.1 ∧ Mv w w' A.blks := by
  have d0 : decide ((n : Int) < 1) = false := decide_eq_false (by omega)
  have d1 : decide ((256 : Int) < (n : Int)) = false := decide_eq_false (by omega)
  have d2 : decide ((16 : Int) < (n : Int)) = false := decide_eq_false (by omega)
  have c3 := h.cF 3 (by decide) (by decide)
  have c4 := h.cF 4 (by decide) (by decide)
  have c9 := h.cF 9 (by decide) (by decide)
  have f3 := h.fA 3
  rw [hw.n0.1] at c9
  obtain ⟨a, ha⟩ : ∃ a, 16 * nx = a := ⟨_, rfl⟩
  rw [ha] at c9
  obtain ⟨b1, b2, b3, b4⟩ := hw.b3
  obtain ⟨X, hX⟩ : ∃ X, A.F 3 = X := ⟨_, rfl⟩
  obtain ⟨Y, hY⟩ : ∃ Y, A.F 4 = Y := ⟨_, rfl⟩
  rw [hX] at c3 b1 b2
  rw [hY] at c4 b3 b4
  have LE := Lib.hid fun W => aleft X Y W b1 b2 b3 b4
  have hlt := h.ra.lt
  have HH := Lib.hid h
  by_cases hf : (n : Int) ≤ A.F 4 - A.F 3
  · have hv : alcS A nx n = ((A.F 3, true), A.cut 3 n, nx) := if_pos hf
    rw [hv]
    rw [hX, hY] at hf
    dsimp only
    rw [hX]
    have HX := Lib.hid hX
    have d3 : decide (Y - X < (n : Int)) = false := decide_eq_false (by clear d0 d1 d2; omega)
    have CU := Lib.hid fun W k0 k1 k2 => acut_yes A.b 3 X Y n W k0 k1 k2 b1 b2 b3 b4 hf
    clear b1 b2 b3 b4 hf hv hX hY h hw hn hn2 ha c9
    go_enter Try.func12, Try.ntmps12
    go_wp2_with (fail)
    refine wp_region_held_drew (S := fun _ => True) (by kernel_rfl) trivial (fun hHeld => ?_)
    refine wpAnyH_take (i := 0) (v := ?v0a) rfl (by kernel_rfl) (by kernel_rfl) (by kernel_rfl) (fun _ _ _ h => h) (Or.inl ⟨by rfl, ?y0a⟩) hHeld ?r0a
    case y0a =>
      intro W hSw
      go_simp
      all_goals (with_reducible rfl)
    change wpAnyH _ _ _ _ _ _ _ (Act.put _ (some 42) _) _
    simp only [Act.put, List.setIfInBounds_toArray, List.set_cons_zero, List.set_cons_succ]
    refine wpAnyH_take (i := 1) (v := ?v1a) rfl (by kernel_rfl) (by kernel_rfl) (by kernel_rfl) (fun _ _ _ h => h) (Or.inl ⟨by rfl, ?y1a⟩) hHeld ?r1a
    case y1a =>
      intro W hSw
      go_simp
      all_goals (with_reducible rfl)
    change wpAnyH _ _ _ _ _ _ _ (Act.put _ (some 43) _) _
    simp only [Act.put, List.setIfInBounds_toArray, List.set_cons_zero, List.set_cons_succ]
    refine wpAnyH_take (i := 2) (v := ?v2a) rfl (by kernel_rfl) (by kernel_rfl) (by kernel_rfl) (fun _ _ _ h => h) (Or.inl ⟨by rfl, ?y2a⟩) hHeld ?r2a
    case y2a =>
      intro W hSw
      go_simp
      all_goals (with_reducible rfl)
    change wpAnyH _ _ _ _ _ _ _ (Act.put _ (some 44) _) _
    simp only [Act.put, List.setIfInBounds_toArray, List.set_cons_zero, List.set_cons_succ]
    refine wpAnyH_take (i := 5) (v := ?v5a) rfl (by kernel_rfl) (by kernel_rfl) (by kernel_rfl) (fun _ _ _ h => h) (Or.inl ⟨by rfl, ?y5a⟩) hHeld ?r5a
    case y5a =>
      intro W hSw
      go_simp
      all_goals (with_reducible rfl)
    change wpAnyH _ _ _ _ _ _ _ (Act.put _ (some 47) _) _
    simp only [Act.put, List.setIfInBounds_toArray, List.set_cons_zero, List.set_cons_succ]
    refine wpAnyH_ready (rs := [3]) (by kernel_rfl) (by simp) ?_
    refine AllReadyH.cons rfl (fun K hK => ?_) AllReadyH.nil
    go_simp
    refine hK.out _ _ trivial (fun hHeld => ?_)
    clear hK K
    refine wpAnyH_ready (rs := [4]) (by kernel_rfl) (by simp) ?_
    refine AllReadyH.cons rfl (fun K hK => ?_) AllReadyH.nil
    go_simp
    refine (LE.out _).mono ?_
    rintro e w2 ⟨rfl, m2⟩
    have m2 := (show Mv w w2 [] from ⟨m2.os, m2.tape, m2.output, m2.size, m2.keep⟩)
    refine hK.out _ _ trivial (fun hHeld => ?_)
    clear hK K
    refine wpAnyH_take (i := 6) (v := ?v6a) rfl (by kernel_rfl) (by kernel_rfl) (by kernel_rfl) (fun _ _ _ h => h) (Or.inl ⟨by rfl, ?y6a⟩) hHeld ?r6a
    case y6a =>
      intro W hSw
      go_simp
      all_goals (with_reducible rfl)
    change wpAnyH _ _ _ _ _ _ _ (Act.put _ (some 48) _) _
    simp only [Act.put, List.setIfInBounds_toArray, List.set_cons_zero, List.set_cons_succ]
    refine wpAnyH_take (i := 7) (v := ?v7a) rfl (by kernel_rfl) (by kernel_rfl) (by kernel_rfl) (fun _ _ _ h => h) (Or.inl ⟨by rfl, ?y7a⟩) hHeld ?r7a
    case y7a =>
      intro W hSw
      go_simp
      all_goals (with_reducible rfl)
    change wpAnyH _ _ _ _ _ _ _ (Act.put _ (some 49) _) _
    simp only [Act.put, List.setIfInBounds_toArray, List.set_cons_zero, List.set_cons_succ]
    refine wpAnyH_take (i := 8) (v := undef) rfl (by kernel_rfl) (by kernel_rfl) (by kernel_rfl) (fun _ _ _ h => h) (Or.inr ⟨by rfl, rfl⟩) hHeld ?_
    change wpAnyH _ _ _ _ _ _ _ (Act.put _ (some 50) _) _
    simp only [Act.put, List.setIfInBounds_toArray, List.set_cons_zero, List.set_cons_succ]
    refine wpAnyH_take (i := 9) (v := undef) rfl (by kernel_rfl) (by kernel_rfl) (by kernel_rfl) (fun _ _ _ h => h) (Or.inr ⟨by rfl, rfl⟩) hHeld ?_
    change wpAnyH _ _ _ _ _ _ _ (Act.put _ (some 51) _) _
    simp only [Act.put, List.setIfInBounds_toArray, List.set_cons_zero, List.set_cons_succ]
    refine wpAnyH_take (i := 10) (v := undef) rfl (by kernel_rfl) (by kernel_rfl) (by kernel_rfl) (fun _ _ _ h => h) (Or.inr ⟨by rfl, rfl⟩) hHeld ?_
    change wpAnyH _ _ _ _ _ _ _ (Act.put _ (some 52) _) _
    simp only [Act.put, List.setIfInBounds_toArray, List.set_cons_zero, List.set_cons_succ]
    refine wpAnyH_take (i := 11) (v := undef) rfl (by kernel_rfl) (by kernel_rfl) (by kernel_rfl) (fun _ _ _ h => h) (Or.inr ⟨by rfl, rfl⟩) hHeld ?_
    change wpAnyH _ _ _ _ _ _ _ (Act.put _ (some 53) _) _
    simp only [Act.put, List.setIfInBounds_toArray, List.set_cons_zero, List.set_cons_succ]
    refine wpAnyH_take (i := 12) (v := undef) rfl (by kernel_rfl) (by kernel_rfl) (by kernel_rfl) (fun _ _ _ h => h) (Or.inr ⟨by rfl, rfl⟩) hHeld ?_
    change wpAnyH _ _ _ _ _ _ _ (Act.put _ (some 54) _) _
    simp only [Act.put, List.setIfInBounds_toArray, List.set_cons_zero, List.set_cons_succ]
    refine wpAnyH_take (i := 13) (v := undef) rfl (by kernel_rfl) (by kernel_rfl) (by kernel_rfl) (fun _ _ _ h => h) (Or.inr ⟨by rfl, rfl⟩) hHeld ?_
    change wpAnyH _ _ _ _ _ _ _ (Act.put _ (some 55) _) _
    simp only [Act.put, List.setIfInBounds_toArray, List.set_cons_zero, List.set_cons_succ]
    refine wpAnyH_take (i := 14) (v := undef) rfl (by kernel_rfl) (by kernel_rfl) (by kernel_rfl) (fun _ _ _ h => h) (Or.inr ⟨by rfl, rfl⟩) hHeld ?_
    change wpAnyH _ _ _ _ _ _ _ (Act.put _ (some 56) _) _
    simp only [Act.put, List.setIfInBounds_toArray, List.set_cons_zero, List.set_cons_succ]
    refine wpAnyH_take (i := 15) (v := undef) rfl (by kernel_rfl) (by kernel_rfl) (by kernel_rfl) (fun _ _ _ h => h) (Or.inr ⟨by rfl, rfl⟩) hHeld ?_
    change wpAnyH _ _ _ _ _ _ _ (Act.put _ (some 57) _) _
    simp only [Act.put, List.setIfInBounds_toArray, List.set_cons_zero, List.set_cons_succ]
    refine wpAnyH_take (i := 16) (v := undef) rfl (by kernel_rfl) (by kernel_rfl) (by kernel_rfl) (fun _ _ _ h => h) (Or.inr ⟨by rfl, rfl⟩) hHeld ?_
    change wpAnyH _ _ _ _ _ _ _ (Act.put _ (some 58) _) _
    simp only [Act.put, List.setIfInBounds_toArray, List.set_cons_zero, List.set_cons_succ]
    refine wpAnyH_take (i := 17) (v := undef) rfl (by kernel_rfl) (by kernel_rfl) (by kernel_rfl) (fun _ _ _ h => h) (Or.inr ⟨by rfl, rfl⟩) hHeld ?_
    change wpAnyH _ _ _ _ _ _ _ (Act.put _ (some 59) _) _
    simp only [Act.put, List.setIfInBounds_toArray, List.set_cons_zero, List.set_cons_succ]
    refine wpAnyH_take (i := 18) (v := ?v18a) rfl (by kernel_rfl) (by kernel_rfl) (by kernel_rfl) (fun _ _ _ h => h) (Or.inl ⟨by rfl, ?y18a⟩) hHeld ?r18a
    case y18a =>
      intro W hSw
      go_simp
      all_goals (with_reducible rfl)
    change wpAnyH _ _ _ _ _ _ _ (Act.put _ (some 60) _) _
    simp only [Act.put, List.setIfInBounds_toArray, List.set_cons_zero, List.set_cons_succ]
    refine wpAnyH_done (by kernel_rfl) ?_ _
    have A2 := Lib.hid (HH.out.mv m2 (by simp))
    have M2 := Lib.hid m2
    have k3 := (m2.cell (o := 3) hlt (by simp)).trans c3
    have k4 := (m2.cell (o := 4) hlt (by simp)).trans c4
    have CV := Lib.hid (CU.out w2 k3 k4 (A2.out.fA 3))
    clear m2 k3 k4
    go_wp2_with (fail)
    refine CV.out.mono ?_
    rintro e w3 ⟨rfl, w1, mm, hs⟩
    have FF := Lib.hid (A2.out.cutW HX.out (by decide) mm hs)
    clear mm hs
    go_wp2_with (fail)
    go_returns
    exact ⟨rfl, FF.out.1, (M2.out.mono (by simp)).trans FF.out.2⟩
  · have d3 : decide (Y - X < (n : Int)) = true := decide_eq_true (by rw [hX, hY] at hf; clear d0 d1 d2; omega)
    obtain ⟨R, hR⟩ : ∃ R, findH A.T (16 * A.nb) n (16 * A.nb) nx = R := ⟨_, rfl⟩
    have TK := Lib.hid fun W (hW : AR W A) => atakeH A 3 nx n a W hW (by decide) (by decide) hn (Nat.le_trans hn2 (by decide)) ha.symm hw.n0.2
    rw [hR] at TK
    have HB := Lib.hid (And.intro b1 (And.intro b2 (And.intro b3 b4)))
    have HX := Lib.hid (And.intro hX hY)
    have HF := Lib.hid (show Y - X < (n : Int) by rw [← hX, ← hY]; omega)
    have HN := Lib.hid (And.intro hn (And.intro hn2 h.n2))
    have HR := Lib.hid hR
    rcases R with _ | ⟨x, y⟩
    · rw [alcS_none hf hR]
      dsimp only
      clear b1 b2 b3 b4 hf hX hY h hw hn hn2 ha hR
      go_enter Try.func12, Try.ntmps12
      go_wp2_with (fail)
      refine wp_region_held_drew (S := fun _ => True) (by kernel_rfl) trivial (fun hHeld => ?_)
      refine wpAnyH_take (i := 0) (v := ?v0b) rfl (by kernel_rfl) (by kernel_rfl) (by kernel_rfl) (fun _ _ _ h => h) (Or.inl ⟨by rfl, ?y0b⟩) hHeld ?r0b
      case y0b =>
        intro W hSw
        go_simp
        all_goals (with_reducible rfl)
      change wpAnyH _ _ _ _ _ _ _ (Act.put _ (some 42) _) _
      simp only [Act.put, List.setIfInBounds_toArray, List.set_cons_zero, List.set_cons_succ]
      refine wpAnyH_take (i := 1) (v := ?v1b) rfl (by kernel_rfl) (by kernel_rfl) (by kernel_rfl) (fun _ _ _ h => h) (Or.inl ⟨by rfl, ?y1b⟩) hHeld ?r1b
      case y1b =>
        intro W hSw
        go_simp
        all_goals (with_reducible rfl)
      change wpAnyH _ _ _ _ _ _ _ (Act.put _ (some 43) _) _
      simp only [Act.put, List.setIfInBounds_toArray, List.set_cons_zero, List.set_cons_succ]
      refine wpAnyH_take (i := 2) (v := ?v2b) rfl (by kernel_rfl) (by kernel_rfl) (by kernel_rfl) (fun _ _ _ h => h) (Or.inl ⟨by rfl, ?y2b⟩) hHeld ?r2b
      case y2b =>
        intro W hSw
        go_simp
        all_goals (with_reducible rfl)
      change wpAnyH _ _ _ _ _ _ _ (Act.put _ (some 44) _) _
      simp only [Act.put, List.setIfInBounds_toArray, List.set_cons_zero, List.set_cons_succ]
      refine wpAnyH_take (i := 5) (v := ?v5b) rfl (by kernel_rfl) (by kernel_rfl) (by kernel_rfl) (fun _ _ _ h => h) (Or.inl ⟨by rfl, ?y5b⟩) hHeld ?r5b
      case y5b =>
        intro W hSw
        go_simp
        all_goals (with_reducible rfl)
      change wpAnyH _ _ _ _ _ _ _ (Act.put _ (some 47) _) _
      simp only [Act.put, List.setIfInBounds_toArray, List.set_cons_zero, List.set_cons_succ]
      refine wpAnyH_ready (rs := [3]) (by kernel_rfl) (by simp) ?_
      refine AllReadyH.cons rfl (fun K hK => ?_) AllReadyH.nil
      go_simp
      refine hK.out _ _ trivial (fun hHeld => ?_)
      clear hK K
      refine wpAnyH_ready (rs := [4]) (by kernel_rfl) (by simp) ?_
      refine AllReadyH.cons rfl (fun K hK => ?_) AllReadyH.nil
      go_simp
      refine (LE.out _).mono ?_
      rintro e w2 ⟨rfl, m2⟩
      have m2 := (show Mv w w2 [] from ⟨m2.os, m2.tape, m2.output, m2.size, m2.keep⟩)
      refine hK.out _ _ trivial (fun hHeld => ?_)
      clear hK K
      refine wpAnyH_take (i := 6) (v := ?v6b) rfl (by kernel_rfl) (by kernel_rfl) (by kernel_rfl) (fun _ _ _ h => h) (Or.inl ⟨by rfl, ?y6b⟩) hHeld ?r6b
      case y6b =>
        intro W hSw
        go_simp
        all_goals (with_reducible rfl)
      change wpAnyH _ _ _ _ _ _ _ (Act.put _ (some 48) _) _
      simp only [Act.put, List.setIfInBounds_toArray, List.set_cons_zero, List.set_cons_succ]
      refine wpAnyH_take (i := 7) (v := ?v7b) rfl (by kernel_rfl) (by kernel_rfl) (by kernel_rfl) (fun _ _ _ h => h) (Or.inl ⟨by rfl, ?y7b⟩) hHeld ?r7b
      case y7b =>
        intro W hSw
        go_simp
        all_goals (with_reducible rfl)
      change wpAnyH _ _ _ _ _ _ _ (Act.put _ (some 49) _) _
      simp only [Act.put, List.setIfInBounds_toArray, List.set_cons_zero, List.set_cons_succ]
      have k9 := (m2.cell hlt (by simp)).trans c9
      refine wpAnyH_take (i := 8) (v := ?v8b) rfl (by kernel_rfl) (by kernel_rfl) (by kernel_rfl) (fun _ _ _ h => h) (Or.inl ⟨by rfl, ?y8b⟩) hHeld ?r8b
      case y8b =>
        intro W hSw
        go_simp
        all_goals (with_reducible rfl)
      change wpAnyH _ _ _ _ _ _ _ (Act.put _ (some 50) _) _
      simp only [Act.put, List.setIfInBounds_toArray, List.set_cons_zero, List.set_cons_succ]
      refine wpAnyH_take (i := 9) (v := ?v9b) rfl (by kernel_rfl) (by kernel_rfl) (by kernel_rfl) (fun _ _ _ h => h) (Or.inl ⟨by rfl, ?y9b⟩) hHeld ?r9b
      case y9b =>
        intro W hSw
        go_simp
        all_goals (with_reducible rfl)
      change wpAnyH _ _ _ _ _ _ _ (Act.put _ (some 51) _) _
      simp only [Act.put, List.setIfInBounds_toArray, List.set_cons_zero, List.set_cons_succ]
      refine wpAnyH_take (i := 10) (v := ?v10b) rfl (by kernel_rfl) (by kernel_rfl) (by kernel_rfl) (fun _ _ _ h => h) (Or.inl ⟨by rfl, ?y10b⟩) hHeld ?r10b
      case y10b =>
        intro W hSw
        go_simp
        all_goals (with_reducible rfl)
      change wpAnyH _ _ _ _ _ _ _ (Act.put _ (some 52) _) _
      simp only [Act.put, List.setIfInBounds_toArray, List.set_cons_zero, List.set_cons_succ]
      refine wpAnyH_take (i := 11) (v := ?v11b) rfl (by kernel_rfl) (by kernel_rfl) (by kernel_rfl) (fun _ _ _ h => h) (Or.inl ⟨by rfl, ?y11b⟩) hHeld ?r11b
      case y11b =>
        intro W hSw
        go_simp
        all_goals (with_reducible rfl)
      change wpAnyH _ _ _ _ _ _ _ (Act.put _ (some 53) _) _
      simp only [Act.put, List.setIfInBounds_toArray, List.set_cons_zero, List.set_cons_succ]
      refine wpAnyH_take (i := 12) (v := ?v12b) rfl (by kernel_rfl) (by kernel_rfl) (by kernel_rfl) (fun _ _ _ h => h) (Or.inl ⟨by rfl, ?y12b⟩) hHeld ?r12b
      case y12b =>
        intro W hSw
        go_simp
        all_goals (with_reducible rfl)
      change wpAnyH _ _ _ _ _ _ _ (Act.put _ (some 54) _) _
      simp only [Act.put, List.setIfInBounds_toArray, List.set_cons_zero, List.set_cons_succ]
      refine wpAnyH_take (i := 13) (v := ?v13b) rfl (by kernel_rfl) (by kernel_rfl) (by kernel_rfl) (fun _ _ _ h => h) (Or.inl ⟨by rfl, ?y13b⟩) hHeld ?r13b
      case y13b =>
        intro W hSw
        go_simp
        all_goals (with_reducible rfl)
      change wpAnyH _ _ _ _ _ _ _ (Act.put _ (some 55) _) _
      simp only [Act.put, List.setIfInBounds_toArray, List.set_cons_zero, List.set_cons_succ]
      refine wpAnyH_take (i := 14) (v := ?v14b) rfl (by kernel_rfl) (by kernel_rfl) (by kernel_rfl) (fun _ _ _ h => h) (Or.inl ⟨by rfl, ?y14b⟩) hHeld ?r14b
      case y14b =>
        intro W hSw
        go_simp
        all_goals (with_reducible rfl)
      change wpAnyH _ _ _ _ _ _ _ (Act.put _ (some 56) _) _
      simp only [Act.put, List.setIfInBounds_toArray, List.set_cons_zero, List.set_cons_succ]
      refine wpAnyH_take (i := 16) (v := ?v16b) rfl (by kernel_rfl) (by kernel_rfl) (by kernel_rfl) (fun _ _ _ h => h) (Or.inl ⟨by rfl, ?y16b⟩) hHeld ?r16b
      case y16b =>
        intro W hSw
        go_simp
        all_goals (with_reducible rfl)
      change wpAnyH _ _ _ _ _ _ _ (Act.put _ (some 58) _) _
      simp only [Act.put, List.setIfInBounds_toArray, List.set_cons_zero, List.set_cons_succ]
      refine wpAnyH_ready (rs := [15]) (by kernel_rfl) (by simp) ?_
      refine AllReadyH.cons rfl (fun K hK => ?_) AllReadyH.nil
      go_simp
      refine hK.out _ _ trivial (fun hHeld => ?_)
      clear hK K
      refine wpAnyH_ready (rs := [17]) (by kernel_rfl) (by simp) ?_
      refine AllReadyH.cons rfl (fun K hK => ?_) AllReadyH.nil
      go_simp
      refine (TK.out w2 ((HH.out.mv m2 (by simp)))).mono ?_
      rintro e w3 hr
      obtain ⟨rfl, hA3, hm3⟩ := hr
      refine hK.out _ _ trivial (fun hHeld => ?_)
      clear hK K
      refine wpAnyH_take (i := 18) (v := ?v18b) rfl (by kernel_rfl) (by kernel_rfl) (by kernel_rfl) (fun _ _ _ h => h) (Or.inl ⟨by rfl, ?y18b⟩) hHeld ?r18b
      case y18b =>
        intro W hSw
        go_simp
        all_goals (with_reducible rfl)
      change wpAnyH _ _ _ _ _ _ _ (Act.put _ (some 60) _) _
      simp only [Act.put, List.setIfInBounds_toArray, List.set_cons_zero, List.set_cons_succ]
      refine wpAnyH_done (by kernel_rfl) ?_ _
      have A3 := Lib.hid hA3
      have M3 := Lib.hid ((m2.mono (L' := A.blks) (by simp)).trans hm3)
      have k3 := hA3.cF 3 (by decide) (by decide)
      have k4 := hA3.cF 4 (by decide) (by decide)
      rw [HX.out.1] at k3
      rw [HX.out.2] at k4
      have CV := Lib.hid (acut_no A.b 3 X Y n w3 k3 k4 HB.out.1 HB.out.2.1 HB.out.2.2.1 HB.out.2.2.2 HF.out)
      clear m2 k3 k4 hA3 hm3 k9
      go_wp2_with (fail)
      refine CV.out.mono ?_
      rintro e w4 ⟨rfl, m4⟩
      have M4 := Lib.hid m4
      clear m4
      go_wp2_with (fail)
      go_returns
      exact ⟨rfl, A3.out.mv M4.out (by simp), M3.out.trans (M4.out.mono (by simp))⟩
    · rw [alcS_some hf hR]
      dsimp only
      obtain ⟨r1, r2, r3, r4, r5, r6, r7⟩ := findH_some A.T A.nb n hn _ _ _ _ hR
      obtain ⟨P, hP⟩ : ∃ P, 16 * x = P := ⟨_, rfl⟩
      obtain ⟨Q, hQ⟩ : ∃ Q, 16 * y = Q := ⟨_, rfl⟩
      have hn3 := h.n2
      have HPQ := Lib.hid (show P ≤ 1048576 ∧ Q ≤ 1048576 ∧ (n : Int) ≤ (Q : Int) - (P : Int) by omega)
      have HPP := Lib.hid (And.intro hP hQ)
      rw [hP, hQ]
      clear b1 b2 b3 b4 hf hX hY h hw hn hn2 ha hR r1 r2 r3 r4 r5 r6 r7 hP hQ hn3
      go_enter Try.func12, Try.ntmps12
      go_wp2_with (fail)
      refine wp_region_held_drew (S := fun _ => True) (by kernel_rfl) trivial (fun hHeld => ?_)
      refine wpAnyH_take (i := 0) (v := ?v0c) rfl (by kernel_rfl) (by kernel_rfl) (by kernel_rfl) (fun _ _ _ h => h) (Or.inl ⟨by rfl, ?y0c⟩) hHeld ?r0c
      case y0c =>
        intro W hSw
        go_simp
        all_goals (with_reducible rfl)
      change wpAnyH _ _ _ _ _ _ _ (Act.put _ (some 42) _) _
      simp only [Act.put, List.setIfInBounds_toArray, List.set_cons_zero, List.set_cons_succ]
      refine wpAnyH_take (i := 1) (v := ?v1c) rfl (by kernel_rfl) (by kernel_rfl) (by kernel_rfl) (fun _ _ _ h => h) (Or.inl ⟨by rfl, ?y1c⟩) hHeld ?r1c
      case y1c =>
        intro W hSw
        go_simp
        all_goals (with_reducible rfl)
      change wpAnyH _ _ _ _ _ _ _ (Act.put _ (some 43) _) _
      simp only [Act.put, List.setIfInBounds_toArray, List.set_cons_zero, List.set_cons_succ]
      refine wpAnyH_take (i := 2) (v := ?v2c) rfl (by kernel_rfl) (by kernel_rfl) (by kernel_rfl) (fun _ _ _ h => h) (Or.inl ⟨by rfl, ?y2c⟩) hHeld ?r2c
      case y2c =>
        intro W hSw
        go_simp
        all_goals (with_reducible rfl)
      change wpAnyH _ _ _ _ _ _ _ (Act.put _ (some 44) _) _
      simp only [Act.put, List.setIfInBounds_toArray, List.set_cons_zero, List.set_cons_succ]
      refine wpAnyH_take (i := 5) (v := ?v5c) rfl (by kernel_rfl) (by kernel_rfl) (by kernel_rfl) (fun _ _ _ h => h) (Or.inl ⟨by rfl, ?y5c⟩) hHeld ?r5c
      case y5c =>
        intro W hSw
        go_simp
        all_goals (with_reducible rfl)
      change wpAnyH _ _ _ _ _ _ _ (Act.put _ (some 47) _) _
      simp only [Act.put, List.setIfInBounds_toArray, List.set_cons_zero, List.set_cons_succ]
      refine wpAnyH_ready (rs := [3]) (by kernel_rfl) (by simp) ?_
      refine AllReadyH.cons rfl (fun K hK => ?_) AllReadyH.nil
      go_simp
      refine hK.out _ _ trivial (fun hHeld => ?_)
      clear hK K
      refine wpAnyH_ready (rs := [4]) (by kernel_rfl) (by simp) ?_
      refine AllReadyH.cons rfl (fun K hK => ?_) AllReadyH.nil
      go_simp
      refine (LE.out _).mono ?_
      rintro e w2 ⟨rfl, m2⟩
      have m2 := (show Mv w w2 [] from ⟨m2.os, m2.tape, m2.output, m2.size, m2.keep⟩)
      refine hK.out _ _ trivial (fun hHeld => ?_)
      clear hK K
      refine wpAnyH_take (i := 6) (v := ?v6c) rfl (by kernel_rfl) (by kernel_rfl) (by kernel_rfl) (fun _ _ _ h => h) (Or.inl ⟨by rfl, ?y6c⟩) hHeld ?r6c
      case y6c =>
        intro W hSw
        go_simp
        all_goals (with_reducible rfl)
      change wpAnyH _ _ _ _ _ _ _ (Act.put _ (some 48) _) _
      simp only [Act.put, List.setIfInBounds_toArray, List.set_cons_zero, List.set_cons_succ]
      refine wpAnyH_take (i := 7) (v := ?v7c) rfl (by kernel_rfl) (by kernel_rfl) (by kernel_rfl) (fun _ _ _ h => h) (Or.inl ⟨by rfl, ?y7c⟩) hHeld ?r7c
      case y7c =>
        intro W hSw
        go_simp
        all_goals (with_reducible rfl)
      change wpAnyH _ _ _ _ _ _ _ (Act.put _ (some 49) _) _
      simp only [Act.put, List.setIfInBounds_toArray, List.set_cons_zero, List.set_cons_succ]
      have k9 := (m2.cell hlt (by simp)).trans c9
      refine wpAnyH_take (i := 8) (v := ?v8c) rfl (by kernel_rfl) (by kernel_rfl) (by kernel_rfl) (fun _ _ _ h => h) (Or.inl ⟨by rfl, ?y8c⟩) hHeld ?r8c
      case y8c =>
        intro W hSw
        go_simp
        all_goals (with_reducible rfl)
      change wpAnyH _ _ _ _ _ _ _ (Act.put _ (some 50) _) _
      simp only [Act.put, List.setIfInBounds_toArray, List.set_cons_zero, List.set_cons_succ]
      refine wpAnyH_take (i := 9) (v := ?v9c) rfl (by kernel_rfl) (by kernel_rfl) (by kernel_rfl) (fun _ _ _ h => h) (Or.inl ⟨by rfl, ?y9c⟩) hHeld ?r9c
      case y9c =>
        intro W hSw
        go_simp
        all_goals (with_reducible rfl)
      change wpAnyH _ _ _ _ _ _ _ (Act.put _ (some 51) _) _
      simp only [Act.put, List.setIfInBounds_toArray, List.set_cons_zero, List.set_cons_succ]
      refine wpAnyH_take (i := 10) (v := ?v10c) rfl (by kernel_rfl) (by kernel_rfl) (by kernel_rfl) (fun _ _ _ h => h) (Or.inl ⟨by rfl, ?y10c⟩) hHeld ?r10c
      case y10c =>
        intro W hSw
        go_simp
        all_goals (with_reducible rfl)
      change wpAnyH _ _ _ _ _ _ _ (Act.put _ (some 52) _) _
      simp only [Act.put, List.setIfInBounds_toArray, List.set_cons_zero, List.set_cons_succ]
      refine wpAnyH_take (i := 11) (v := ?v11c) rfl (by kernel_rfl) (by kernel_rfl) (by kernel_rfl) (fun _ _ _ h => h) (Or.inl ⟨by rfl, ?y11c⟩) hHeld ?r11c
      case y11c =>
        intro W hSw
        go_simp
        all_goals (with_reducible rfl)
      change wpAnyH _ _ _ _ _ _ _ (Act.put _ (some 53) _) _
      simp only [Act.put, List.setIfInBounds_toArray, List.set_cons_zero, List.set_cons_succ]
      refine wpAnyH_take (i := 12) (v := ?v12c) rfl (by kernel_rfl) (by kernel_rfl) (by kernel_rfl) (fun _ _ _ h => h) (Or.inl ⟨by rfl, ?y12c⟩) hHeld ?r12c
      case y12c =>
        intro W hSw
        go_simp
        all_goals (with_reducible rfl)
      change wpAnyH _ _ _ _ _ _ _ (Act.put _ (some 54) _) _
      simp only [Act.put, List.setIfInBounds_toArray, List.set_cons_zero, List.set_cons_succ]
      refine wpAnyH_take (i := 13) (v := ?v13c) rfl (by kernel_rfl) (by kernel_rfl) (by kernel_rfl) (fun _ _ _ h => h) (Or.inl ⟨by rfl, ?y13c⟩) hHeld ?r13c
      case y13c =>
        intro W hSw
        go_simp
        all_goals (with_reducible rfl)
      change wpAnyH _ _ _ _ _ _ _ (Act.put _ (some 55) _) _
      simp only [Act.put, List.setIfInBounds_toArray, List.set_cons_zero, List.set_cons_succ]
      refine wpAnyH_take (i := 14) (v := ?v14c) rfl (by kernel_rfl) (by kernel_rfl) (by kernel_rfl) (fun _ _ _ h => h) (Or.inl ⟨by rfl, ?y14c⟩) hHeld ?r14c
      case y14c =>
        intro W hSw
        go_simp
        all_goals (with_reducible rfl)
      change wpAnyH _ _ _ _ _ _ _ (Act.put _ (some 56) _) _
      simp only [Act.put, List.setIfInBounds_toArray, List.set_cons_zero, List.set_cons_succ]
      refine wpAnyH_take (i := 16) (v := ?v16c) rfl (by kernel_rfl) (by kernel_rfl) (by kernel_rfl) (fun _ _ _ h => h) (Or.inl ⟨by rfl, ?y16c⟩) hHeld ?r16c
      case y16c =>
        intro W hSw
        go_simp
        all_goals (with_reducible rfl)
      change wpAnyH _ _ _ _ _ _ _ (Act.put _ (some 58) _) _
      simp only [Act.put, List.setIfInBounds_toArray, List.set_cons_zero, List.set_cons_succ]
      refine wpAnyH_ready (rs := [15]) (by kernel_rfl) (by simp) ?_
      refine AllReadyH.cons rfl (fun K hK => ?_) AllReadyH.nil
      go_simp
      refine hK.out _ _ trivial (fun hHeld => ?_)
      clear hK K
      refine wpAnyH_ready (rs := [17]) (by kernel_rfl) (by simp) ?_
      refine AllReadyH.cons rfl (fun K hK => ?_) AllReadyH.nil
      go_simp
      refine (TK.out w2 ((HH.out.mv m2 (by simp)))).mono ?_
      rintro e w3 hr
      obtain ⟨rfl, hA3, hm3⟩ := hr
      refine hK.out _ _ trivial (fun hHeld => ?_)
      clear hK K
      refine wpAnyH_take (i := 18) (v := ?v18c) rfl (by kernel_rfl) (by kernel_rfl) (by kernel_rfl) (fun _ _ _ h => h) (Or.inl ⟨by rfl, ?y18c⟩) hHeld ?r18c
      case y18c =>
        intro W hSw
        go_simp
        all_goals (with_reducible rfl)
      change wpAnyH _ _ _ _ _ _ _ (Act.put _ (some 60) _) _
      simp only [Act.put, List.setIfInBounds_toArray, List.set_cons_zero, List.set_cons_succ]
      refine wpAnyH_done (by kernel_rfl) ?_ _
      change AR w3 { A with T := tk A.T x y, F := upd (upd A.F 3 ((16 * x : Nat) : Int)) (3 + 1) ((16 * y : Nat) : Int) } at hA3
      rw [HPP.out.1, HPP.out.2] at hA3
      have M3 := Lib.hid ((m2.mono (L' := A.blks) (by simp)).trans hm3)
      have k3 := hA3.cF 3 (by decide) (by decide)
      have k4 := hA3.cF 4 (by decide) (by decide)
      have k9 := hA3.cF 9 (by decide) (by decide)
      have g9 := hA3.fA 9
      have e3 : upd (upd A.F 3 (P : Int)) (3 + 1) (Q : Int) 3 = (P : Int) := by simp [upd]
      have e4 : upd (upd A.F 3 (P : Int)) (3 + 1) (Q : Int) 4 = (Q : Int) := by simp [upd]
      dsimp only at k3 k4 k9 g9
      rw [e3] at k3
      rw [e4] at k4
      have A4 := Lib.hid (hA3.setF 9 (by decide) (Q : Int))
      have M4 := Lib.hid (M3.out.setCell (p := ⟨A.b, 9, none⟩) (by simp) (.int .i64 (Q : Int)))
      obtain ⟨w4, hw4⟩ : ∃ w4, w3.setCell ⟨A.b, 9, none⟩ (.int .i64 (Q : Int)) = w4 := ⟨_, rfl⟩
      rw [hw4] at A4 M4
      have HW4 := Lib.hid hw4
      clear m2 hA3 hm3 hw4
      go_upto_region 9 with (fail)
      rw [HW4.out]
      have k3 := A4.out.cF 3 (by decide) (by decide)
      have k4 := A4.out.cF 4 (by decide) (by decide)
      have j3 : upd (upd (upd A.F 3 (P : Int)) (3 + 1) (Q : Int)) 9 (Q : Int) 3 = (P : Int) := by simp [upd]
      have j4 : upd (upd (upd A.F 3 (P : Int)) (3 + 1) (Q : Int)) 9 (Q : Int) 4 = (Q : Int) := by simp [upd]
      dsimp only at k3 k4
      rw [j3] at k3
      rw [j4] at k4
      have CV := Lib.hid (acut_yes A.b 3 (P : Int) (Q : Int) n w4 k3 k4 (A4.out.fA 3) (by omega) (by have := HPQ.out.1; omega) (by omega) (by have := HPQ.out.2.1; omega) HPQ.out.2.2)
      have J3 := Lib.hid j3
      clear k3 k4 e3 e4 j3 j4 g9 k9
      go_wp2_with (fail)
      refine CV.out.mono ?_
      rintro e w5 ⟨rfl, w1, mm, hs⟩
      have FF := Lib.hid (A4.out.cutW J3.out (by decide) mm hs)
      clear mm hs
      go_wp2_with (fail)
      go_returns
      have hfin := FF.out.1
      have hm := M4.out.trans FF.out.2
      obtain ⟨rfl, rfl⟩ := HPP.out
      exact ⟨rfl, hfin, hm⟩
end LM
end Go.Proofs.Ytghnaiinhbdgcaa
