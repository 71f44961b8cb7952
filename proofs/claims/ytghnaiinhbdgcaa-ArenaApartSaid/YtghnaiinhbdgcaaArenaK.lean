/- Walks of package arena: Sweep. Written by genK.py. -/
import Derived.Test.YtghnaiinhbdgcaaArenaF
import Derived.Deep.RegionHeld
import Derived.Deep.Cut
namespace Go.Proofs.Ytghnaiinhbdgcaa
open Go Go.RowKit
namespace LM
set_option linter.unusedVariables false

theorem step_copy_run {P : Program} {ops : Array Oper} {o : Oper} {a : Act} {w : World} {K : Act → World → Prop} {Q : Exit → Act → World → Prop} {E : Prop} (hgd : o.guard = none) (d s : Operand) (dT sT : TypeId)
    (ho : o.op = .call { callee := .builtin .copy, args := #[d, s], argTypes := #[dT, sT] }) (D S : Value) (hd : a.eval d = D) (hs : a.eval s = S) (n : Value) (w' : World)
    (hrun : ∀ ty, (Builtin.copy_ #[dT, sT] ty #[D, S]).run P w = .ok n w') (h : K (a.put o.dst n) w') : if Region.wanted o (yielded ops a.tmps) = true then Oper.wp P o a w K Q else E := by
  have hw : Region.wanted o (yielded ops a.tmps) = true := by simp [Region.wanted, hgd]
  rw [if_pos hw]
  unfold Oper.wp
  simp [execOp, ho, resolve, invoke, builtin, hd, hs, hrun, Result.andThen]
  exact h
theorem wpList_clear_run {P : Program} {w : World} {ops : Array Oper} {rest : List Oper} {o : Oper} {a : Act} {Q : Exit → Act → World → Prop} (hgd : o.guard = none) (d : Operand) (dT : TypeId)
    (ho : o.op = .call { callee := .builtin .clear, args := #[d], argTypes := #[dT] }) (D : Value) (hd : a.eval d = D) (n : Value) (w' : World)
    (hrun : ∀ ty, (Builtin.clear_ #[dT] ty #[D]).run P w = .ok n w') (h : wpList P ops Q rest (a.put o.dst n) w') : wpList P ops Q (o :: rest) a w := by
  refine wpList_plain hgd fun K hK => ?_
  unfold Oper.wp
  simp [execOp, ho, resolve, invoke, builtin, hd, hrun, Result.andThen]
  exact hK _ _ h
/-- n truths, as values -/
def trs (f : Nat → Bool) (n : Nat) : List Value := (List.range n).map fun i => .bool (f i)
theorem trs_len (f : Nat → Bool) (n : Nat) : (trs f n).length = n := by simp [trs]
theorem trs_at (f : Nat → Bool) {n i : Nat} (h : i < n) : (trs f n)[i]? = some (.bool (f i)) := by simp [trs, h]
theorem trs_one (f : Nat → Bool) (n : Nat) : ∀ v ∈ trs f n, v.oneCell' = true := by
  intro v hv
  unfold trs at hv
  obtain ⟨i, -, rfl⟩ := List.mem_map.1 hv
  rfl
theorem AR.copyT {w : World} {A : Ar} (h : AR w A) : AR (w.setRow A.tb (trs A.M (16 * A.nb)).toArray) { A with T := A.M } :=
  ⟨h.ra.keep (setRow_other _ _ _ _ h.d2), h.rw.keep (setRow_other _ _ _ _ h.d4), h.rt.setRow _ (by rw [List.size_toArray, trs_len]) (fun i hi => by rw [List.getElem?_toArray]; exact trs_at _ hi), h.rm.keep (setRow_other _ _ _ _ h.d6.symm), h.d1, h.d2, h.d3, h.d4, h.d5, h.d6, h.n1, h.n2⟩
theorem AR.clearM {w : World} {A : Ar} (h : AR w A) : AR (w.setRow A.mb (List.replicate (A.nb * 16) (Value.bool false)).toArray) { A with M := fun _ => false } :=
  ⟨h.ra.keep (setRow_other _ _ _ _ h.d3), h.rw.keep (setRow_other _ _ _ _ h.d5), h.rt.keep (setRow_other _ _ _ _ h.d6), h.rm.setRow _ (by rw [List.size_toArray, List.length_replicate]; exact Nat.mul_comm _ _) (fun i hi => by rw [List.getElem?_toArray, List.getElem?_replicate, if_pos (by omega)]), h.d1, h.d2, h.d3, h.d4, h.d5, h.d6, h.n1, h.n2⟩
theorem AR.eqF {w : World} {A : Ar} (h : AR w A) {F : Nat → Int} (e : ∀ i, 3 ≤ i → i < 10 → A.F i = F i) : AR w { A with F := F } :=
  ⟨h.ra.eq fun i hi => by
    unfold Ar.fv
    dsimp only
    by_cases h0 : i = 0
    · rw [if_pos h0, if_pos h0]
    · by_cases h1 : i = 1
      · rw [if_neg h0, if_neg h0, if_pos h1, if_pos h1]
      · by_cases h2 : i = 2
        · rw [if_neg h0, if_neg h0, if_neg h1, if_neg h1, if_pos h2, if_pos h2]
        · rw [if_neg h0, if_neg h0, if_neg h1, if_neg h1, if_neg h2, if_neg h2, e i (by omega) hi], h.rw, h.rt, h.rm, h.d1, h.d2, h.d3, h.d4, h.d5, h.d6, h.n1, h.n2⟩
/-- an arena swept -/
abbrev Ar.swept (A : Ar) : Ar := { A with T := A.M, M := fun _ => false, F := fun _ => 0 }
theorem lines_zero (w : World) : (zeroValue 50).run Try.prog w = .ok (.agg noL) w := by
  simp [zeroValue, typeInfo]
  rfl

set_option maxRecDepth 100000 in
set_option maxHeartbeats 4000000 in
theorem asweep (A : Ar) (w : World) (h : AR w A) :
    Calls Try.prog 15 #[.pointer (some ⟨A.b, 0, none⟩)] w fun e w' => e = .returned (.tuple #[]) ∧ AR w' A.swept ∧ Mv w w' A.blks := by
  have hn1 := h.n1
  obtain ⟨W1, hW1⟩ : ∃ W1, w.drew.setRow A.tb (trs A.M (16 * A.nb)).toArray = W1 := ⟨_, rfl⟩
  have h1 : AR W1 { A with T := A.M } := by rw [← hW1]; exact h.drew.copyT
  have m1 : Mv w W1 A.blks := by rw [← hW1]; exact (Mv.refl _ _).drew.setRow (by simp) _
  have hcp : ∀ ty, (Builtin.copy_ #[42, 42] ty #[.slice (some ⟨A.tb, 0, none⟩) A.nb A.nb, .slice (some ⟨A.mb, 0, none⟩) A.nb A.nb]).run Try.prog w.drew = .ok (goInt A.nb) W1 := by
    intro ty
    obtain ⟨cur, T, g1, g2, -⟩ := h.drew.rt
    have h9 := run_copy_many (P := Try.prog) w.drew 42 42 ty 50 A.tb A.nb A.nb ⟨A.mb, 0, none⟩ A.nb A.nb 16 cur T (trs A.M (16 * A.nb)) Try.underlying42 arr_info g1 (by rw [trs_len, (show Nat.min A.nb A.nb = A.nb from Nat.min_self _)]; exact Nat.mul_comm _ _) (fun j v hj => by
      have hl := (List.getElem?_eq_some_iff.1 hj).1
      rw [trs_len] at hl
      rw [trs_at _ hl] at hj
      rw [← hj]
      have e : ((⟨A.mb, 0, none⟩ : Addr).add j) = ⟨A.mb, j, none⟩ := by unfold Addr.add; split <;> simp_all
      rw [e]
      exact h.drew.cM hl) (by rw [g2, trs_len]) (trs_one _ _)
    rw [(show Nat.min A.nb A.nb = A.nb from Nat.min_self _), hW1] at h9
    exact h9
  obtain ⟨W2, hW2⟩ : ∃ W2, W1.setRow A.mb (List.replicate (A.nb * 16) (Value.bool false)).toArray = W2 := ⟨_, rfl⟩
  have h2 : AR W2 { A with T := A.M, M := fun _ => false } := by rw [← hW2]; exact h1.clearM
  have m2 : Mv w W2 A.blks := by rw [← hW2]; exact m1.setRow (by simp) _
  have hcl : ∀ ty, (Builtin.clear_ #[42] ty #[.slice (some ⟨A.mb, 0, none⟩) A.nb A.nb]).run Try.prog W1 = .ok (.tuple #[]) W2 := by
    intro ty
    obtain ⟨cur, T, g1, g2, -⟩ := h1.rm
    have h9 := run_clear_many (P := Try.prog) W1 42 50 ty (.agg noL) (.bool false) 16 Try.underlying42 lines_zero rfl rfl A.mb A.nb A.nb hn1 cur T g1 (by rw [g2]; exact Nat.mul_comm _ _)
    rw [hW2] at h9
    exact h9
  have q1 := h.c1
  have q2 := h.c2
  have c1 := h1.c1
  have c2 := h1.c2
  dsimp only at c1 c2
  have K1 := Lib.hid (And.intro c1 c2)
  have k3 := h2.cF 3 (by decide) (by decide)
  have k4 := h2.cF 4 (by decide) (by decide)
  have k5 := h2.cF 5 (by decide) (by decide)
  have k6 := h2.cF 6 (by decide) (by decide)
  have k7 := h2.cF 7 (by decide) (by decide)
  have k8 := h2.cF 8 (by decide) (by decide)
  have k9 := h2.cF 9 (by decide) (by decide)
  have g3 := h2.fA 3
  have g4 := h2.fA 4
  have g5 := h2.fA 5
  have g6 := h2.fA 6
  have g7 := h2.fA 7
  have g8 := h2.fA 8
  have g9 := h2.fA 9
  dsimp only at k3 k4 k5 k6 k7 k8 k9 g3 g4 g5 g6 g7 g8 g9
  have FA := Lib.hid ((((((((h2.setF 3 (by decide) 0).setF 4 (by decide) 0).setF 5 (by decide) 0).setF 6 (by decide) 0).setF 7 (by decide) 0).setF 8 (by decide) 0).setF 9 (by decide) 0).eqF (F := fun _ => 0) (fun i h3 h10 => by
    dsimp only
    unfold upd
    repeat' split
    all_goals first | rfl | omega))
  have FM := Lib.hid (((((((m2.setCell (p := ⟨A.b, 3, none⟩) (by simp) (.int .i64 0)).setCell (p := ⟨A.b, 4, none⟩) (by simp) (.int .i64 0)).setCell (p := ⟨A.b, 5, none⟩) (by simp) (.int .i64 0)).setCell (p := ⟨A.b, 6, none⟩) (by simp) (.int .i64 0)).setCell (p := ⟨A.b, 7, none⟩) (by simp) (.int .i64 0)).setCell (p := ⟨A.b, 8, none⟩) (by simp) (.int .i64 0)).setCell (p := ⟨A.b, 9, none⟩) (by simp) (.int .i64 0))
  have CP := Lib.hid hcp
  have CL := Lib.hid hcl
  have Q0 := Lib.hid (show w.drew.cell? ⟨A.b, 1, none⟩ = some (.slice (some ⟨A.tb, 0, none⟩) A.nb A.nb) ∧ w.drew.cell? ⟨A.b, 2, none⟩ = some (.slice (some ⟨A.mb, 0, none⟩) A.nb A.nb) from ⟨q1, q2⟩)
  clear h h1 h2 m1 m2 hcp hcl hW1 hW2 hn1 q1 q2
  go_enter Try.func15, Try.ntmps15
  go_wp2_with (fail)
  refine wp_region_held_drew (S := fun W => W.cell? ⟨A.b, 1, none⟩ = some (.slice (some ⟨A.tb, 0, none⟩) A.nb A.nb) ∧ W.cell? ⟨A.b, 2, none⟩ = some (.slice (some ⟨A.mb, 0, none⟩) A.nb A.nb)) (by kernel_rfl) Q0.out (fun hHeld => ?_)
  refine wpAnyH_take (i := 0) (v := ?v0) rfl (by kernel_rfl) (by kernel_rfl) (by kernel_rfl) (fun _ _ _ h => h) (Or.inl ⟨by rfl, ?y0⟩) hHeld ?r0
  case y0 =>
    intro W hSw
    obtain ⟨u0, u1⟩ := hSw
    go_simp
    all_goals (with_reducible rfl)
  change wpAnyH _ _ _ _ _ _ _ (Act.put _ (some 2) _) _
  simp only [Act.put, List.setIfInBounds_toArray, List.set_cons_zero, List.set_cons_succ]
  refine wpAnyH_take (i := 1) (v := ?v1) rfl (by kernel_rfl) (by kernel_rfl) (by kernel_rfl) (fun _ _ _ h => h) (Or.inl ⟨by rfl, ?y1⟩) hHeld ?r1
  case y1 =>
    intro W hSw
    obtain ⟨u0, u1⟩ := hSw
    go_simp
    all_goals (with_reducible rfl)
  change wpAnyH _ _ _ _ _ _ _ (Act.put _ (some 3) _) _
  simp only [Act.put, List.setIfInBounds_toArray, List.set_cons_zero, List.set_cons_succ]
  refine wpAnyH_take (i := 2) (v := ?v2) rfl (by kernel_rfl) (by kernel_rfl) (by kernel_rfl) (fun _ _ _ h => h) (Or.inl ⟨by rfl, ?y2⟩) hHeld ?r2
  case y2 =>
    intro W hSw
    obtain ⟨u0, u1⟩ := hSw
    go_simp
    all_goals (with_reducible rfl)
  change wpAnyH _ _ _ _ _ _ _ (Act.put _ (some 4) _) _
  simp only [Act.put, List.setIfInBounds_toArray, List.set_cons_zero, List.set_cons_succ]
  refine wpAnyH_take (i := 3) (v := ?v3) rfl (by kernel_rfl) (by kernel_rfl) (by kernel_rfl) (fun _ _ _ h => h) (Or.inl ⟨by rfl, ?y3⟩) hHeld ?r3
  case y3 =>
    intro W hSw
    obtain ⟨u0, u1⟩ := hSw
    go_simp
    all_goals (with_reducible rfl)
  change wpAnyH _ _ _ _ _ _ _ (Act.put _ (some 5) _) _
  simp only [Act.put, List.setIfInBounds_toArray, List.set_cons_zero, List.set_cons_succ]
  refine wpAnyH_take (i := 4) (v := ?v4) rfl (by kernel_rfl) (by kernel_rfl) (by kernel_rfl) (fun _ _ _ h => h) (Or.inl ⟨by rfl, ?y4⟩) hHeld ?r4
  case y4 =>
    intro W hSw
    obtain ⟨u0, u1⟩ := hSw
    go_simp
    all_goals (with_reducible rfl)
  change wpAnyH _ _ _ _ _ _ _ (Act.put _ (some 6) _) _
  simp only [Act.put, List.setIfInBounds_toArray, List.set_cons_zero, List.set_cons_succ]
  refine wpAnyH_take (i := 5) (v := ?v5) rfl (by kernel_rfl) (by kernel_rfl) (by kernel_rfl) (fun _ _ _ h => h) (Or.inl ⟨by rfl, ?y5⟩) hHeld ?r5
  case y5 =>
    intro W hSw
    obtain ⟨u0, u1⟩ := hSw
    go_simp
    all_goals (with_reducible rfl)
  change wpAnyH _ _ _ _ _ _ _ (Act.put _ (some 7) _) _
  simp only [Act.put, List.setIfInBounds_toArray, List.set_cons_zero, List.set_cons_succ]
  refine wpAnyH_take (i := 6) (v := ?v6) rfl (by kernel_rfl) (by kernel_rfl) (by kernel_rfl) (fun _ _ _ h => h) (Or.inl ⟨by rfl, ?y6⟩) hHeld ?r6
  case y6 =>
    intro W hSw
    obtain ⟨u0, u1⟩ := hSw
    go_simp
    all_goals (with_reducible rfl)
  change wpAnyH _ _ _ _ _ _ _ (Act.put _ (some 8) _) _
  simp only [Act.put, List.setIfInBounds_toArray, List.set_cons_zero, List.set_cons_succ]
  refine wpAnyH_take (i := 7) (v := ?v7) rfl (by kernel_rfl) (by kernel_rfl) (by kernel_rfl) (fun _ _ _ h => h) (Or.inl ⟨by rfl, ?y7⟩) hHeld ?r7
  case y7 =>
    intro W hSw
    obtain ⟨u0, u1⟩ := hSw
    go_simp
    all_goals (with_reducible rfl)
  change wpAnyH _ _ _ _ _ _ _ (Act.put _ (some 9) _) _
  simp only [Act.put, List.setIfInBounds_toArray, List.set_cons_zero, List.set_cons_succ]
  refine wpAnyH_ready (rs := [8]) (by kernel_rfl) (by simp) ?_
  refine AllReadyH.cons rfl (fun K hK => ?_) AllReadyH.nil
  refine step_copy_run rfl (.tmp 5) (.tmp 9) 42 42 rfl (.slice (some ⟨A.tb, 0, none⟩) A.nb A.nb) (.slice (some ⟨A.mb, 0, none⟩) A.nb A.nb) (by first | rfl | simp [Act.eval, Act.put]) (by first | rfl | simp [Act.eval, Act.put]) (goInt A.nb) W1 CP.out ?_
  refine hK.out _ _ K1.out (fun hHeld => ?_)
  clear hK K hHeld
  refine wpAnyH_done (by kernel_rfl) ?_ _
  go_upto_region 2 with (refine wpList_clear_run rfl (.tmp 14) 42 rfl (.slice (some ⟨A.mb, 0, none⟩) A.nb A.nb) (by first | rfl | simp [Act.eval, Act.put]) (.tuple #[]) W2 CL.out ?_)
  clear c1 c2
  go_upto_region 3 with (fail)
  go_wp2_with (fail)
  go_end0
  exact ⟨rfl, FA.out, FM.out⟩
end LM
end Go.Proofs.Ytghnaiinhbdgcaa
