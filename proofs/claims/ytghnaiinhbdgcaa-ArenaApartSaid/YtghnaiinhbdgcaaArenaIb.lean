/- Walks of package arena: New. Written by genI.py. -/
import Derived.Test.YtghnaiinhbdgcaaArenaI
import Derived.Test.YtghnaiinhbdgcaaArenaF
import Derived.Deep.RegionHeld
namespace Go.Proofs.Ytghnaiinhbdgcaa
open Go Go.RowKit
namespace LM
set_option linter.unusedVariables false

theorem new_fin {nb N : Nat} {w V : World} {wb tb mb : Nat} {T : TypeId} (h1 : 1 ≤ nb) (h2 : nb ≤ 4096) (hN : N = nb * 256) (rwb : RowF V wb (N * 1) (fun _ => .int .u64 0)) (rtb : RowF V tb (nb * 16) (fun _ => .bool false)) (rmb : RowF V mb (nb * 16) (fun _ => .bool false))
    (d4 : wb ≠ tb) (d5 : wb ≠ mb) (d6 : tb ≠ mb) (m : Mv w V []) (b1 : w.heap.size ≤ wb) (b2 : w.heap.size ≤ tb) (b3 : w.heap.size ≤ mb) :
    AR (V.alloc (.cells #[.slice (some ⟨wb, 0, none⟩) N N, .slice (some ⟨tb, 0, none⟩) nb nb, .slice (some ⟨mb, 0, none⟩) nb nb, .int .i64 0, .int .i64 0, .int .i64 0, .int .i64 0, .int .i64 0, .int .i64 0, .int .i64 0] T)) (Ar.new nb V.heap.size wb tb mb) ∧
      Mv w (V.alloc (.cells #[.slice (some ⟨wb, 0, none⟩) N N, .slice (some ⟨tb, 0, none⟩) nb nb, .slice (some ⟨mb, 0, none⟩) nb nb, .int .i64 0, .int .i64 0, .int .i64 0, .int .i64 0, .int .i64 0, .int .i64 0, .int .i64 0] T)) [] ∧ ∀ k ∈ (Ar.new nb V.heap.size wb tb mb).blks, w.heap.size ≤ k := by
  subst hN
  have e1 := rwb.lt
  have e2 := rtb.lt
  have e3 := rmb.lt
  rw [show nb * 256 * 1 = 256 * nb by omega] at rwb
  rw [show nb * 16 = 16 * nb by omega] at rtb rmb
  refine ⟨⟨RowF.new V _ _ rfl fun i hi => ?_, rwb.alloc _, rtb.alloc _, rmb.alloc _, ?_, ?_, ?_, d4, d5, d6, h1, h2⟩, m.alloc _, ?_⟩
  · match i, hi with
    | 0, _ => rfl
    | 1, _ => rfl
    | 2, _ => rfl
    | 3, _ => rfl
    | 4, _ => rfl
    | 5, _ => rfl
    | 6, _ => rfl
    | 7, _ => rfl
    | 8, _ => rfl
    | 9, _ => rfl
  · show V.heap.size ≠ wb; omega
  · show V.heap.size ≠ tb; omega
  · show V.heap.size ≠ mb; omega
  · intro k hk
    have hs := m.size
    simp only [Ar.blks, List.mem_cons, List.not_mem_nil, or_false] at hk
    rcases hk with rfl | rfl | rfl | rfl
    · exact hs
    · exact b1
    · exact b2
    · exact b3
set_option maxRecDepth 100000 in
set_option maxHeartbeats 4000000 in
theorem anew (nb : Nat) (w : World) (h1 : 1 ≤ nb) (h2 : nb ≤ 4096) :
    Calls Try.prog 6 #[.int .i64 (nb : Int)] w fun e w' => ∃ b wb tb mb, e = .returned (.pointer (some ⟨b, 0, none⟩)) ∧ AR w' (Ar.new nb b wb tb mb) ∧ Mv w w' [] ∧ ∀ k ∈ (Ar.new nb b wb tb mb).blks, w.heap.size ≤ k := by
  obtain ⟨N, hN⟩ : ∃ N, N = nb * 256 := ⟨_, rfl⟩
  have e3 : RowKit.wrap64 ((nb : Int) * 256) = (N : Int) := (wrapn (n := nb * 256) (by omega)).trans (by rw [hN])
  have e4 : IntKind.i64.wrap ((nb : Int) * 256) = (N : Int) := by rw [IntKind.wrap_i64]; omega
  have HB := Lib.hid (And.intro h1 (And.intro h2 hN))
  have x1 : ¬ (nb : Int) < 1 := by omega
  have x2 : ¬ (4096 : Int) < (nb : Int) := by omega
  have x3 : (1 : Int) ≤ (nb : Int) := by omega
  have x4 : (nb : Int) ≤ 4096 := by omega
  clear h1 h2 hN
  go_enter Try.func6, Try.ntmps6
  go_wp2_with (fail)
  refine wp_region_held_drew (S := fun _ => True) (by kernel_rfl) trivial (fun hHeld => ?_)
  refine wpAnyH_take (i := 0) (v := ?v0z1) rfl (by kernel_rfl) (by kernel_rfl) (by kernel_rfl) (fun _ _ _ h => h) (Or.inl ⟨by rfl, ?y0z1⟩) hHeld ?r0z1
  case y0z1 =>
    intro W hSw
    go_simp
    all_goals (with_reducible rfl)
  change wpAnyH _ _ _ _ _ _ _ (Act.put _ (some 6) _) _
  simp only [Act.put, List.setIfInBounds_toArray, List.set_cons_zero, List.set_cons_succ]
  refine wpAnyH_take (i := 1) (v := ?v1z1) rfl (by kernel_rfl) (by kernel_rfl) (by kernel_rfl) (fun _ _ _ h => h) (Or.inl ⟨by rfl, ?y1z1⟩) hHeld ?r1z1
  case y1z1 =>
    intro W hSw
    go_simp
    all_goals (with_reducible rfl)
  change wpAnyH _ _ _ _ _ _ _ (Act.put _ (some 7) _) _
  simp only [Act.put, List.setIfInBounds_toArray, List.set_cons_zero, List.set_cons_succ]
  refine wpAnyH_take (i := 3) (v := ?v3z1) rfl (by kernel_rfl) (by kernel_rfl) (by kernel_rfl) (fun _ _ _ h => h) (Or.inl ⟨by rfl, ?y3z1⟩) hHeld ?r3z1
  case y3z1 =>
    intro W hSw
    go_simp
    all_goals (with_reducible rfl)
  change wpAnyH _ _ _ _ _ _ _ (Act.put _ (some 9) _) _
  simp only [Act.put, List.setIfInBounds_toArray, List.set_cons_zero, List.set_cons_succ]
  refine wpAnyH_take (i := 5) (v := ?v5z1) rfl (by kernel_rfl) (by kernel_rfl) (by kernel_rfl) (fun _ _ _ h => h) (Or.inl ⟨by rfl, ?y5z1⟩) hHeld ?r5z1
  case y5z1 =>
    intro W hSw
    go_simp
    all_goals (with_reducible rfl)
  change wpAnyH _ _ _ _ _ _ _ (Act.put _ (some 11) _) _
  simp only [Act.put, List.setIfInBounds_toArray, List.set_cons_zero, List.set_cons_succ]
  try rw [e3]
  refine wpAnyH_ready (rs := [2, 4, 6]) (by kernel_rfl) (by simp) ?_
  refine AllReadyH.cons rfl (fun K hK => ?_) (AllReadyH.cons rfl (fun K hK => ?_) (AllReadyH.cons rfl (fun K hK => ?_) AllReadyH.nil))
  · refine step_make_alloc _ rfl (.tmp 7) 41 rfl 25 (.int .u64 0) 1 8 Try.underlying41 (by kernel_rfl) N ((N : Nat) : Int) (by first | rfl | simp [Act.eval, Act.put, e4]) rfl (by have := HB.out; omega) (by have := HB.out; omega) ?_
    obtain ⟨V1, hV1⟩ : ∃ V1, (w.drew).alloc (.cells (madeCells (Value.cells (.int .u64 0)) (N * 1)) 25) = V1 := ⟨_, rfl⟩
    rw [hV1]
    have rwb : RowF V1 (w).heap.size (N * 1) (fun _ => .int .u64 0) := by rw [← hV1]; exact RowF.made _ _ _ _ _ (by decide) (by intro j hj; match j, hj with | 0, _ => rfl)
    have L1 := Lib.hid (show V1.heap.size = (w).heap.size + 1 by rw [← hV1]; simp)
    have m1 : Mv (w.drew) V1 [] := by rw [← hV1]; exact (Mv.refl _ _).alloc _
    clear hV1
    refine hK.out _ _ trivial (fun hHeld => ?_)
    clear hK K
    refine wpAnyH_ready (rs := [4, 6]) (by kernel_rfl) (by simp) ?_
    refine AllReadyH.cons rfl (fun K hK => ?_) (AllReadyH.cons rfl (fun K hK => ?_) AllReadyH.nil)
    · refine step_make_alloc _ rfl (.tmp 9) 42 rfl 50 (.agg noL) 16 16 Try.underlying42 (by kernel_rfl) nb ((nb : Nat) : Int) (by first | rfl | simp [Act.eval, Act.put, e4]) rfl (by have := HB.out; omega) (by have := HB.out; omega) ?_
      obtain ⟨V2, hV2⟩ : ∃ V2, (V1).alloc (.cells (madeCells (Value.cells (.agg noL)) (nb * 16)) 50) = V2 := ⟨_, rfl⟩
      rw [hV2]
      have rtb : RowF V2 (V1).heap.size (nb * 16) (fun _ => .bool false) := by rw [← hV2]; exact RowF.made _ _ _ _ _ (by decide) (fun j hj => noL_at j hj)
      have L2 := Lib.hid (show V2.heap.size = (V1).heap.size + 1 by rw [← hV2]; simp)
      have m2 : Mv (V1) V2 [] := by rw [← hV2]; exact (Mv.refl _ _).alloc _
      have rwb := rwb.mv m2 (by simp)
      clear hV2
      refine hK.out _ _ trivial (fun hHeld => ?_)
      clear hK K
      refine wpAnyH_ready (rs := [6]) (by kernel_rfl) (by simp) ?_
      refine AllReadyH.cons rfl (fun K hK => ?_) AllReadyH.nil
      · refine step_make_alloc _ rfl (.tmp 11) 42 rfl 50 (.agg noL) 16 16 Try.underlying42 (by kernel_rfl) nb ((nb : Nat) : Int) (by first | rfl | simp [Act.eval, Act.put, e4]) rfl (by have := HB.out; omega) (by have := HB.out; omega) ?_
        obtain ⟨V3, hV3⟩ : ∃ V3, (V2).alloc (.cells (madeCells (Value.cells (.agg noL)) (nb * 16)) 50) = V3 := ⟨_, rfl⟩
        rw [hV3]
        have rmb : RowF V3 (V2).heap.size (nb * 16) (fun _ => .bool false) := by rw [← hV3]; exact RowF.made _ _ _ _ _ (by decide) (fun j hj => noL_at j hj)
        have L3 := Lib.hid (show V3.heap.size = (V2).heap.size + 1 by rw [← hV3]; simp)
        have m3 : Mv (V2) V3 [] := by rw [← hV3]; exact (Mv.refl _ _).alloc _
        have rwb := rwb.mv m3 (by simp)
        have rtb := rtb.mv m3 (by simp)
        clear hV3
        refine hK.out _ _ trivial (fun hHeld => ?_)
        clear hK K
        refine wpAnyH_take (i := 7) (v := ?v7x2) rfl (by kernel_rfl) (by kernel_rfl) (by kernel_rfl) (fun _ _ _ h => h) (Or.inl ⟨by rfl, ?y7x2⟩) hHeld ?r7x2
        case y7x2 =>
          intro W hSw
          go_simp
          all_goals (with_reducible rfl)
        change wpAnyH _ _ _ _ _ _ _ (Act.put _ (some 13) _) _
        simp only [Act.put, List.setIfInBounds_toArray, List.set_cons_zero, List.set_cons_succ]
        refine wpAnyH_ready (rs := [8]) (by kernel_rfl) (by simp) ?_
        refine AllReadyH.cons rfl (fun K hK => ?_) AllReadyH.nil
        go_simp
        have l1 := L1.out
        have l2 := L2.out
        have l3 := L3.out
        have FIN := Lib.hid (new_fin (nb := nb) (T := 46) HB.out.1 HB.out.2.1 HB.out.2.2 rwb rtb rmb (by omega) (by omega) (by omega) ((((Mv.refl w []).drew.trans m1).trans m2).trans m3) (by show w.heap.size ≤ _; first | exact Nat.le_refl _ | omega) (by show w.heap.size ≤ _; first | exact Nat.le_refl _ | omega) (by show w.heap.size ≤ _; first | exact Nat.le_refl _ | omega))
        clear l1 l2 l3
        refine hK.out _ _ trivial (fun hHeld => ?_)
        clear hK K
        refine wpAnyH_take (i := 9) (v := ?v9y2) rfl (by kernel_rfl) (by kernel_rfl) (by kernel_rfl) (fun _ _ _ h => h) (Or.inl ⟨by rfl, ?y9y2⟩) hHeld ?r9y2
        case y9y2 =>
          intro W hSw
          go_simp
          all_goals (with_reducible rfl)
        change wpAnyH _ _ _ _ _ _ _ (Act.put _ (some 2) _) _
        simp only [Act.put, List.setIfInBounds_toArray, List.set_cons_zero, List.set_cons_succ]
        refine wpAnyH_done (by kernel_rfl) ?_ _
        go_wp2_with (fail)
        go_ret
        exact ⟨_, _, _, _, rfl, FIN.out⟩
    · refine step_make_alloc _ rfl (.tmp 11) 42 rfl 50 (.agg noL) 16 16 Try.underlying42 (by kernel_rfl) nb ((nb : Nat) : Int) (by first | rfl | simp [Act.eval, Act.put, e4]) rfl (by have := HB.out; omega) (by have := HB.out; omega) ?_
      obtain ⟨V2, hV2⟩ : ∃ V2, (V1).alloc (.cells (madeCells (Value.cells (.agg noL)) (nb * 16)) 50) = V2 := ⟨_, rfl⟩
      rw [hV2]
      have rmb : RowF V2 (V1).heap.size (nb * 16) (fun _ => .bool false) := by rw [← hV2]; exact RowF.made _ _ _ _ _ (by decide) (fun j hj => noL_at j hj)
      have L2 := Lib.hid (show V2.heap.size = (V1).heap.size + 1 by rw [← hV2]; simp)
      have m2 : Mv (V1) V2 [] := by rw [← hV2]; exact (Mv.refl _ _).alloc _
      have rwb := rwb.mv m2 (by simp)
      clear hV2
      refine hK.out _ _ trivial (fun hHeld => ?_)
      clear hK K
      refine wpAnyH_ready (rs := [4]) (by kernel_rfl) (by simp) ?_
      refine AllReadyH.cons rfl (fun K hK => ?_) AllReadyH.nil
      · refine step_make_alloc _ rfl (.tmp 9) 42 rfl 50 (.agg noL) 16 16 Try.underlying42 (by kernel_rfl) nb ((nb : Nat) : Int) (by first | rfl | simp [Act.eval, Act.put, e4]) rfl (by have := HB.out; omega) (by have := HB.out; omega) ?_
        obtain ⟨V3, hV3⟩ : ∃ V3, (V2).alloc (.cells (madeCells (Value.cells (.agg noL)) (nb * 16)) 50) = V3 := ⟨_, rfl⟩
        rw [hV3]
        have rtb : RowF V3 (V2).heap.size (nb * 16) (fun _ => .bool false) := by rw [← hV3]; exact RowF.made _ _ _ _ _ (by decide) (fun j hj => noL_at j hj)
        have L3 := Lib.hid (show V3.heap.size = (V2).heap.size + 1 by rw [← hV3]; simp)
        have m3 : Mv (V2) V3 [] := by rw [← hV3]; exact (Mv.refl _ _).alloc _
        have rwb := rwb.mv m3 (by simp)
        have rmb := rmb.mv m3 (by simp)
        clear hV3
        refine hK.out _ _ trivial (fun hHeld => ?_)
        clear hK K
        refine wpAnyH_take (i := 7) (v := ?v7x3) rfl (by kernel_rfl) (by kernel_rfl) (by kernel_rfl) (fun _ _ _ h => h) (Or.inl ⟨by rfl, ?y7x3⟩) hHeld ?r7x3
        case y7x3 =>
          intro W hSw
          go_simp
          all_goals (with_reducible rfl)
        change wpAnyH _ _ _ _ _ _ _ (Act.put _ (some 13) _) _
        simp only [Act.put, List.setIfInBounds_toArray, List.set_cons_zero, List.set_cons_succ]
        refine wpAnyH_ready (rs := [8]) (by kernel_rfl) (by simp) ?_
        refine AllReadyH.cons rfl (fun K hK => ?_) AllReadyH.nil
        go_simp
        have l1 := L1.out
        have l2 := L2.out
        have l3 := L3.out
        have FIN := Lib.hid (new_fin (nb := nb) (T := 46) HB.out.1 HB.out.2.1 HB.out.2.2 rwb rtb rmb (by omega) (by omega) (by omega) ((((Mv.refl w []).drew.trans m1).trans m2).trans m3) (by show w.heap.size ≤ _; first | exact Nat.le_refl _ | omega) (by show w.heap.size ≤ _; first | exact Nat.le_refl _ | omega) (by show w.heap.size ≤ _; first | exact Nat.le_refl _ | omega))
        clear l1 l2 l3
        refine hK.out _ _ trivial (fun hHeld => ?_)
        clear hK K
        refine wpAnyH_take (i := 9) (v := ?v9y3) rfl (by kernel_rfl) (by kernel_rfl) (by kernel_rfl) (fun _ _ _ h => h) (Or.inl ⟨by rfl, ?y9y3⟩) hHeld ?r9y3
        case y9y3 =>
          intro W hSw
          go_simp
          all_goals (with_reducible rfl)
        change wpAnyH _ _ _ _ _ _ _ (Act.put _ (some 2) _) _
        simp only [Act.put, List.setIfInBounds_toArray, List.set_cons_zero, List.set_cons_succ]
        refine wpAnyH_done (by kernel_rfl) ?_ _
        go_wp2_with (fail)
        go_ret
        exact ⟨_, _, _, _, rfl, FIN.out⟩
  · refine step_make_alloc _ rfl (.tmp 9) 42 rfl 50 (.agg noL) 16 16 Try.underlying42 (by kernel_rfl) nb ((nb : Nat) : Int) (by first | rfl | simp [Act.eval, Act.put, e4]) rfl (by have := HB.out; omega) (by have := HB.out; omega) ?_
    obtain ⟨V1, hV1⟩ : ∃ V1, (w.drew).alloc (.cells (madeCells (Value.cells (.agg noL)) (nb * 16)) 50) = V1 := ⟨_, rfl⟩
    rw [hV1]
    have rtb : RowF V1 (w).heap.size (nb * 16) (fun _ => .bool false) := by rw [← hV1]; exact RowF.made _ _ _ _ _ (by decide) (fun j hj => noL_at j hj)
    have L1 := Lib.hid (show V1.heap.size = (w).heap.size + 1 by rw [← hV1]; simp)
    have m1 : Mv (w.drew) V1 [] := by rw [← hV1]; exact (Mv.refl _ _).alloc _
    clear hV1
    refine hK.out _ _ trivial (fun hHeld => ?_)
    clear hK K
    refine wpAnyH_ready (rs := [2, 6]) (by kernel_rfl) (by simp) ?_
    refine AllReadyH.cons rfl (fun K hK => ?_) (AllReadyH.cons rfl (fun K hK => ?_) AllReadyH.nil)
    · refine step_make_alloc _ rfl (.tmp 7) 41 rfl 25 (.int .u64 0) 1 8 Try.underlying41 (by kernel_rfl) N ((N : Nat) : Int) (by first | rfl | simp [Act.eval, Act.put, e4]) rfl (by have := HB.out; omega) (by have := HB.out; omega) ?_
      obtain ⟨V2, hV2⟩ : ∃ V2, (V1).alloc (.cells (madeCells (Value.cells (.int .u64 0)) (N * 1)) 25) = V2 := ⟨_, rfl⟩
      rw [hV2]
      have rwb : RowF V2 (V1).heap.size (N * 1) (fun _ => .int .u64 0) := by rw [← hV2]; exact RowF.made _ _ _ _ _ (by decide) (by intro j hj; match j, hj with | 0, _ => rfl)
      have L2 := Lib.hid (show V2.heap.size = (V1).heap.size + 1 by rw [← hV2]; simp)
      have m2 : Mv (V1) V2 [] := by rw [← hV2]; exact (Mv.refl _ _).alloc _
      have rtb := rtb.mv m2 (by simp)
      clear hV2
      refine hK.out _ _ trivial (fun hHeld => ?_)
      clear hK K
      refine wpAnyH_ready (rs := [6]) (by kernel_rfl) (by simp) ?_
      refine AllReadyH.cons rfl (fun K hK => ?_) AllReadyH.nil
      · refine step_make_alloc _ rfl (.tmp 11) 42 rfl 50 (.agg noL) 16 16 Try.underlying42 (by kernel_rfl) nb ((nb : Nat) : Int) (by first | rfl | simp [Act.eval, Act.put, e4]) rfl (by have := HB.out; omega) (by have := HB.out; omega) ?_
        obtain ⟨V3, hV3⟩ : ∃ V3, (V2).alloc (.cells (madeCells (Value.cells (.agg noL)) (nb * 16)) 50) = V3 := ⟨_, rfl⟩
        rw [hV3]
        have rmb : RowF V3 (V2).heap.size (nb * 16) (fun _ => .bool false) := by rw [← hV3]; exact RowF.made _ _ _ _ _ (by decide) (fun j hj => noL_at j hj)
        have L3 := Lib.hid (show V3.heap.size = (V2).heap.size + 1 by rw [← hV3]; simp)
        have m3 : Mv (V2) V3 [] := by rw [← hV3]; exact (Mv.refl _ _).alloc _
        have rtb := rtb.mv m3 (by simp)
        have rwb := rwb.mv m3 (by simp)
        clear hV3
        refine hK.out _ _ trivial (fun hHeld => ?_)
        clear hK K
        refine wpAnyH_take (i := 7) (v := ?v7x4) rfl (by kernel_rfl) (by kernel_rfl) (by kernel_rfl) (fun _ _ _ h => h) (Or.inl ⟨by rfl, ?y7x4⟩) hHeld ?r7x4
        case y7x4 =>
          intro W hSw
          go_simp
          all_goals (with_reducible rfl)
        change wpAnyH _ _ _ _ _ _ _ (Act.put _ (some 13) _) _
        simp only [Act.put, List.setIfInBounds_toArray, List.set_cons_zero, List.set_cons_succ]
        refine wpAnyH_ready (rs := [8]) (by kernel_rfl) (by simp) ?_
        refine AllReadyH.cons rfl (fun K hK => ?_) AllReadyH.nil
        go_simp
        have l1 := L1.out
        have l2 := L2.out
        have l3 := L3.out
        have FIN := Lib.hid (new_fin (nb := nb) (T := 46) HB.out.1 HB.out.2.1 HB.out.2.2 rwb rtb rmb (by omega) (by omega) (by omega) ((((Mv.refl w []).drew.trans m1).trans m2).trans m3) (by show w.heap.size ≤ _; first | exact Nat.le_refl _ | omega) (by show w.heap.size ≤ _; first | exact Nat.le_refl _ | omega) (by show w.heap.size ≤ _; first | exact Nat.le_refl _ | omega))
        clear l1 l2 l3
        refine hK.out _ _ trivial (fun hHeld => ?_)
        clear hK K
        refine wpAnyH_take (i := 9) (v := ?v9y4) rfl (by kernel_rfl) (by kernel_rfl) (by kernel_rfl) (fun _ _ _ h => h) (Or.inl ⟨by rfl, ?y9y4⟩) hHeld ?r9y4
        case y9y4 =>
          intro W hSw
          go_simp
          all_goals (with_reducible rfl)
        change wpAnyH _ _ _ _ _ _ _ (Act.put _ (some 2) _) _
        simp only [Act.put, List.setIfInBounds_toArray, List.set_cons_zero, List.set_cons_succ]
        refine wpAnyH_done (by kernel_rfl) ?_ _
        go_wp2_with (fail)
        go_ret
        exact ⟨_, _, _, _, rfl, FIN.out⟩
    · refine step_make_alloc _ rfl (.tmp 11) 42 rfl 50 (.agg noL) 16 16 Try.underlying42 (by kernel_rfl) nb ((nb : Nat) : Int) (by first | rfl | simp [Act.eval, Act.put, e4]) rfl (by have := HB.out; omega) (by have := HB.out; omega) ?_
      obtain ⟨V2, hV2⟩ : ∃ V2, (V1).alloc (.cells (madeCells (Value.cells (.agg noL)) (nb * 16)) 50) = V2 := ⟨_, rfl⟩
      rw [hV2]
      have rmb : RowF V2 (V1).heap.size (nb * 16) (fun _ => .bool false) := by rw [← hV2]; exact RowF.made _ _ _ _ _ (by decide) (fun j hj => noL_at j hj)
      have L2 := Lib.hid (show V2.heap.size = (V1).heap.size + 1 by rw [← hV2]; simp)
      have m2 : Mv (V1) V2 [] := by rw [← hV2]; exact (Mv.refl _ _).alloc _
      have rtb := rtb.mv m2 (by simp)
      clear hV2
      refine hK.out _ _ trivial (fun hHeld => ?_)
      clear hK K
      refine wpAnyH_ready (rs := [2]) (by kernel_rfl) (by simp) ?_
      refine AllReadyH.cons rfl (fun K hK => ?_) AllReadyH.nil
      · refine step_make_alloc _ rfl (.tmp 7) 41 rfl 25 (.int .u64 0) 1 8 Try.underlying41 (by kernel_rfl) N ((N : Nat) : Int) (by first | rfl | simp [Act.eval, Act.put, e4]) rfl (by have := HB.out; omega) (by have := HB.out; omega) ?_
        obtain ⟨V3, hV3⟩ : ∃ V3, (V2).alloc (.cells (madeCells (Value.cells (.int .u64 0)) (N * 1)) 25) = V3 := ⟨_, rfl⟩
        rw [hV3]
        have rwb : RowF V3 (V2).heap.size (N * 1) (fun _ => .int .u64 0) := by rw [← hV3]; exact RowF.made _ _ _ _ _ (by decide) (by intro j hj; match j, hj with | 0, _ => rfl)
        have L3 := Lib.hid (show V3.heap.size = (V2).heap.size + 1 by rw [← hV3]; simp)
        have m3 : Mv (V2) V3 [] := by rw [← hV3]; exact (Mv.refl _ _).alloc _
        have rtb := rtb.mv m3 (by simp)
        have rmb := rmb.mv m3 (by simp)
        clear hV3
        refine hK.out _ _ trivial (fun hHeld => ?_)
        clear hK K
        refine wpAnyH_take (i := 7) (v := ?v7x5) rfl (by kernel_rfl) (by kernel_rfl) (by kernel_rfl) (fun _ _ _ h => h) (Or.inl ⟨by rfl, ?y7x5⟩) hHeld ?r7x5
        case y7x5 =>
          intro W hSw
          go_simp
          all_goals (with_reducible rfl)
        change wpAnyH _ _ _ _ _ _ _ (Act.put _ (some 13) _) _
        simp only [Act.put, List.setIfInBounds_toArray, List.set_cons_zero, List.set_cons_succ]
        refine wpAnyH_ready (rs := [8]) (by kernel_rfl) (by simp) ?_
        refine AllReadyH.cons rfl (fun K hK => ?_) AllReadyH.nil
        go_simp
        have l1 := L1.out
        have l2 := L2.out
        have l3 := L3.out
        have FIN := Lib.hid (new_fin (nb := nb) (T := 46) HB.out.1 HB.out.2.1 HB.out.2.2 rwb rtb rmb (by omega) (by omega) (by omega) ((((Mv.refl w []).drew.trans m1).trans m2).trans m3) (by show w.heap.size ≤ _; first | exact Nat.le_refl _ | omega) (by show w.heap.size ≤ _; first | exact Nat.le_refl _ | omega) (by show w.heap.size ≤ _; first | exact Nat.le_refl _ | omega))
        clear l1 l2 l3
        refine hK.out _ _ trivial (fun hHeld => ?_)
        clear hK K
        refine wpAnyH_take (i := 9) (v := ?v9y5) rfl (by kernel_rfl) (by kernel_rfl) (by kernel_rfl) (fun _ _ _ h => h) (Or.inl ⟨by rfl, ?y9y5⟩) hHeld ?r9y5
        case y9y5 =>
          intro W hSw
          go_simp
          all_goals (with_reducible rfl)
        change wpAnyH _ _ _ _ _ _ _ (Act.put _ (some 2) _) _
        simp only [Act.put, List.setIfInBounds_toArray, List.set_cons_zero, List.set_cons_succ]
        refine wpAnyH_done (by kernel_rfl) ?_ _
        go_wp2_with (fail)
        go_ret
        exact ⟨_, _, _, _, rfl, FIN.out⟩
  · refine step_make_alloc _ rfl (.tmp 11) 42 rfl 50 (.agg noL) 16 16 Try.underlying42 (by kernel_rfl) nb ((nb : Nat) : Int) (by first | rfl | simp [Act.eval, Act.put, e4]) rfl (by have := HB.out; omega) (by have := HB.out; omega) ?_
    obtain ⟨V1, hV1⟩ : ∃ V1, (w.drew).alloc (.cells (madeCells (Value.cells (.agg noL)) (nb * 16)) 50) = V1 := ⟨_, rfl⟩
    rw [hV1]
    have rmb : RowF V1 (w).heap.size (nb * 16) (fun _ => .bool false) := by rw [← hV1]; exact RowF.made _ _ _ _ _ (by decide) (fun j hj => noL_at j hj)
    have L1 := Lib.hid (show V1.heap.size = (w).heap.size + 1 by rw [← hV1]; simp)
    have m1 : Mv (w.drew) V1 [] := by rw [← hV1]; exact (Mv.refl _ _).alloc _
    clear hV1
    refine hK.out _ _ trivial (fun hHeld => ?_)
    clear hK K
    refine wpAnyH_ready (rs := [2, 4]) (by kernel_rfl) (by simp) ?_
    refine AllReadyH.cons rfl (fun K hK => ?_) (AllReadyH.cons rfl (fun K hK => ?_) AllReadyH.nil)
    · refine step_make_alloc _ rfl (.tmp 7) 41 rfl 25 (.int .u64 0) 1 8 Try.underlying41 (by kernel_rfl) N ((N : Nat) : Int) (by first | rfl | simp [Act.eval, Act.put, e4]) rfl (by have := HB.out; omega) (by have := HB.out; omega) ?_
      obtain ⟨V2, hV2⟩ : ∃ V2, (V1).alloc (.cells (madeCells (Value.cells (.int .u64 0)) (N * 1)) 25) = V2 := ⟨_, rfl⟩
      rw [hV2]
      have rwb : RowF V2 (V1).heap.size (N * 1) (fun _ => .int .u64 0) := by rw [← hV2]; exact RowF.made _ _ _ _ _ (by decide) (by intro j hj; match j, hj with | 0, _ => rfl)
      have L2 := Lib.hid (show V2.heap.size = (V1).heap.size + 1 by rw [← hV2]; simp)
      have m2 : Mv (V1) V2 [] := by rw [← hV2]; exact (Mv.refl _ _).alloc _
      have rmb := rmb.mv m2 (by simp)
      clear hV2
      refine hK.out _ _ trivial (fun hHeld => ?_)
      clear hK K
      refine wpAnyH_ready (rs := [4]) (by kernel_rfl) (by simp) ?_
      refine AllReadyH.cons rfl (fun K hK => ?_) AllReadyH.nil
      · refine step_make_alloc _ rfl (.tmp 9) 42 rfl 50 (.agg noL) 16 16 Try.underlying42 (by kernel_rfl) nb ((nb : Nat) : Int) (by first | rfl | simp [Act.eval, Act.put, e4]) rfl (by have := HB.out; omega) (by have := HB.out; omega) ?_
        obtain ⟨V3, hV3⟩ : ∃ V3, (V2).alloc (.cells (madeCells (Value.cells (.agg noL)) (nb * 16)) 50) = V3 := ⟨_, rfl⟩
        rw [hV3]
        have rtb : RowF V3 (V2).heap.size (nb * 16) (fun _ => .bool false) := by rw [← hV3]; exact RowF.made _ _ _ _ _ (by decide) (fun j hj => noL_at j hj)
        have L3 := Lib.hid (show V3.heap.size = (V2).heap.size + 1 by rw [← hV3]; simp)
        have m3 : Mv (V2) V3 [] := by rw [← hV3]; exact (Mv.refl _ _).alloc _
        have rmb := rmb.mv m3 (by simp)
        have rwb := rwb.mv m3 (by simp)
        clear hV3
        refine hK.out _ _ trivial (fun hHeld => ?_)
        clear hK K
        refine wpAnyH_take (i := 7) (v := ?v7x6) rfl (by kernel_rfl) (by kernel_rfl) (by kernel_rfl) (fun _ _ _ h => h) (Or.inl ⟨by rfl, ?y7x6⟩) hHeld ?r7x6
        case y7x6 =>
          intro W hSw
          go_simp
          all_goals (with_reducible rfl)
        change wpAnyH _ _ _ _ _ _ _ (Act.put _ (some 13) _) _
        simp only [Act.put, List.setIfInBounds_toArray, List.set_cons_zero, List.set_cons_succ]
        refine wpAnyH_ready (rs := [8]) (by kernel_rfl) (by simp) ?_
        refine AllReadyH.cons rfl (fun K hK => ?_) AllReadyH.nil
        go_simp
        have l1 := L1.out
        have l2 := L2.out
        have l3 := L3.out
        have FIN := Lib.hid (new_fin (nb := nb) (T := 46) HB.out.1 HB.out.2.1 HB.out.2.2 rwb rtb rmb (by omega) (by omega) (by omega) ((((Mv.refl w []).drew.trans m1).trans m2).trans m3) (by show w.heap.size ≤ _; first | exact Nat.le_refl _ | omega) (by show w.heap.size ≤ _; first | exact Nat.le_refl _ | omega) (by show w.heap.size ≤ _; first | exact Nat.le_refl _ | omega))
        clear l1 l2 l3
        refine hK.out _ _ trivial (fun hHeld => ?_)
        clear hK K
        refine wpAnyH_take (i := 9) (v := ?v9y6) rfl (by kernel_rfl) (by kernel_rfl) (by kernel_rfl) (fun _ _ _ h => h) (Or.inl ⟨by rfl, ?y9y6⟩) hHeld ?r9y6
        case y9y6 =>
          intro W hSw
          go_simp
          all_goals (with_reducible rfl)
        change wpAnyH _ _ _ _ _ _ _ (Act.put _ (some 2) _) _
        simp only [Act.put, List.setIfInBounds_toArray, List.set_cons_zero, List.set_cons_succ]
        refine wpAnyH_done (by kernel_rfl) ?_ _
        go_wp2_with (fail)
        go_ret
        exact ⟨_, _, _, _, rfl, FIN.out⟩
    · refine step_make_alloc _ rfl (.tmp 9) 42 rfl 50 (.agg noL) 16 16 Try.underlying42 (by kernel_rfl) nb ((nb : Nat) : Int) (by first | rfl | simp [Act.eval, Act.put, e4]) rfl (by have := HB.out; omega) (by have := HB.out; omega) ?_
      obtain ⟨V2, hV2⟩ : ∃ V2, (V1).alloc (.cells (madeCells (Value.cells (.agg noL)) (nb * 16)) 50) = V2 := ⟨_, rfl⟩
      rw [hV2]
      have rtb : RowF V2 (V1).heap.size (nb * 16) (fun _ => .bool false) := by rw [← hV2]; exact RowF.made _ _ _ _ _ (by decide) (fun j hj => noL_at j hj)
      have L2 := Lib.hid (show V2.heap.size = (V1).heap.size + 1 by rw [← hV2]; simp)
      have m2 : Mv (V1) V2 [] := by rw [← hV2]; exact (Mv.refl _ _).alloc _
      have rmb := rmb.mv m2 (by simp)
      clear hV2
      refine hK.out _ _ trivial (fun hHeld => ?_)
      clear hK K
      refine wpAnyH_ready (rs := [2]) (by kernel_rfl) (by simp) ?_
      refine AllReadyH.cons rfl (fun K hK => ?_) AllReadyH.nil
      · refine step_make_alloc _ rfl (.tmp 7) 41 rfl 25 (.int .u64 0) 1 8 Try.underlying41 (by kernel_rfl) N ((N : Nat) : Int) (by first | rfl | simp [Act.eval, Act.put, e4]) rfl (by have := HB.out; omega) (by have := HB.out; omega) ?_
        obtain ⟨V3, hV3⟩ : ∃ V3, (V2).alloc (.cells (madeCells (Value.cells (.int .u64 0)) (N * 1)) 25) = V3 := ⟨_, rfl⟩
        rw [hV3]
        have rwb : RowF V3 (V2).heap.size (N * 1) (fun _ => .int .u64 0) := by rw [← hV3]; exact RowF.made _ _ _ _ _ (by decide) (by intro j hj; match j, hj with | 0, _ => rfl)
        have L3 := Lib.hid (show V3.heap.size = (V2).heap.size + 1 by rw [← hV3]; simp)
        have m3 : Mv (V2) V3 [] := by rw [← hV3]; exact (Mv.refl _ _).alloc _
        have rmb := rmb.mv m3 (by simp)
        have rtb := rtb.mv m3 (by simp)
        clear hV3
        refine hK.out _ _ trivial (fun hHeld => ?_)
        clear hK K
        refine wpAnyH_take (i := 7) (v := ?v7x7) rfl (by kernel_rfl) (by kernel_rfl) (by kernel_rfl) (fun _ _ _ h => h) (Or.inl ⟨by rfl, ?y7x7⟩) hHeld ?r7x7
        case y7x7 =>
          intro W hSw
          go_simp
          all_goals (with_reducible rfl)
        change wpAnyH _ _ _ _ _ _ _ (Act.put _ (some 13) _) _
        simp only [Act.put, List.setIfInBounds_toArray, List.set_cons_zero, List.set_cons_succ]
        refine wpAnyH_ready (rs := [8]) (by kernel_rfl) (by simp) ?_
        refine AllReadyH.cons rfl (fun K hK => ?_) AllReadyH.nil
        go_simp
        have l1 := L1.out
        have l2 := L2.out
        have l3 := L3.out
        have FIN := Lib.hid (new_fin (nb := nb) (T := 46) HB.out.1 HB.out.2.1 HB.out.2.2 rwb rtb rmb (by omega) (by omega) (by omega) ((((Mv.refl w []).drew.trans m1).trans m2).trans m3) (by show w.heap.size ≤ _; first | exact Nat.le_refl _ | omega) (by show w.heap.size ≤ _; first | exact Nat.le_refl _ | omega) (by show w.heap.size ≤ _; first | exact Nat.le_refl _ | omega))
        clear l1 l2 l3
        refine hK.out _ _ trivial (fun hHeld => ?_)
        clear hK K
        refine wpAnyH_take (i := 9) (v := ?v9y7) rfl (by kernel_rfl) (by kernel_rfl) (by kernel_rfl) (fun _ _ _ h => h) (Or.inl ⟨by rfl, ?y9y7⟩) hHeld ?r9y7
        case y9y7 =>
          intro W hSw
          go_simp
          all_goals (with_reducible rfl)
        change wpAnyH _ _ _ _ _ _ _ (Act.put _ (some 2) _) _
        simp only [Act.put, List.setIfInBounds_toArray, List.set_cons_zero, List.set_cons_succ]
        refine wpAnyH_done (by kernel_rfl) ?_ _
        go_wp2_with (fail)
        go_ret
        exact ⟨_, _, _, _, rfl, FIN.out⟩

set_option maxRecDepth 100000 in
set_option maxHeartbeats 4000000 in
theorem anew0 (w : World) :
    Calls Try.prog 6 #[.int .i64 0] w fun e w' => ∃ b wb tb mb, e = .returned (.pointer (some ⟨b, 0, none⟩)) ∧ AR w' (Ar.new 1 b wb tb mb) ∧ Mv w w' [] ∧ ∀ k ∈ (Ar.new 1 b wb tb mb).blks, w.heap.size ≤ k := by
  have e3 : RowKit.wrap64 (256 : Int) = 256 := wrapn (n := 256) (by decide)
  have e4 : IntKind.i64.wrap 256 = 256 := by decide
  go_enter Try.func6, Try.ntmps6
  go_wp2_with (fail)
  refine wp_region_held_drew (S := fun _ => True) (by kernel_rfl) trivial (fun hHeld => ?_)
  refine wpAnyH_take (i := 0) (v := ?v0z8) rfl (by kernel_rfl) (by kernel_rfl) (by kernel_rfl) (fun _ _ _ h => h) (Or.inl ⟨by rfl, ?y0z8⟩) hHeld ?r0z8
  case y0z8 =>
    intro W hSw
    go_simp
    all_goals (with_reducible rfl)
  change wpAnyH _ _ _ _ _ _ _ (Act.put _ (some 6) _) _
  simp only [Act.put, List.setIfInBounds_toArray, List.set_cons_zero, List.set_cons_succ]
  refine wpAnyH_take (i := 1) (v := ?v1z8) rfl (by kernel_rfl) (by kernel_rfl) (by kernel_rfl) (fun _ _ _ h => h) (Or.inl ⟨by rfl, ?y1z8⟩) hHeld ?r1z8
  case y1z8 =>
    intro W hSw
    go_simp
    all_goals (with_reducible rfl)
  change wpAnyH _ _ _ _ _ _ _ (Act.put _ (some 7) _) _
  simp only [Act.put, List.setIfInBounds_toArray, List.set_cons_zero, List.set_cons_succ]
  refine wpAnyH_take (i := 3) (v := ?v3z8) rfl (by kernel_rfl) (by kernel_rfl) (by kernel_rfl) (fun _ _ _ h => h) (Or.inl ⟨by rfl, ?y3z8⟩) hHeld ?r3z8
  case y3z8 =>
    intro W hSw
    go_simp
    all_goals (with_reducible rfl)
  change wpAnyH _ _ _ _ _ _ _ (Act.put _ (some 9) _) _
  simp only [Act.put, List.setIfInBounds_toArray, List.set_cons_zero, List.set_cons_succ]
  refine wpAnyH_take (i := 5) (v := ?v5z8) rfl (by kernel_rfl) (by kernel_rfl) (by kernel_rfl) (fun _ _ _ h => h) (Or.inl ⟨by rfl, ?y5z8⟩) hHeld ?r5z8
  case y5z8 =>
    intro W hSw
    go_simp
    all_goals (with_reducible rfl)
  change wpAnyH _ _ _ _ _ _ _ (Act.put _ (some 11) _) _
  simp only [Act.put, List.setIfInBounds_toArray, List.set_cons_zero, List.set_cons_succ]
  try rw [e3]
  refine wpAnyH_ready (rs := [2, 4, 6]) (by kernel_rfl) (by simp) ?_
  refine AllReadyH.cons rfl (fun K hK => ?_) (AllReadyH.cons rfl (fun K hK => ?_) (AllReadyH.cons rfl (fun K hK => ?_) AllReadyH.nil))
  · refine step_make_alloc _ rfl (.tmp 7) 41 rfl 25 (.int .u64 0) 1 8 Try.underlying41 (by kernel_rfl) 256 ((256 : Nat) : Int) (by first | rfl | simp [Act.eval, Act.put, e4]) rfl (by decide) (by decide) ?_
    obtain ⟨V1, hV1⟩ : ∃ V1, (w.drew).alloc (.cells (madeCells (Value.cells (.int .u64 0)) (256 * 1)) 25) = V1 := ⟨_, rfl⟩
    rw [hV1]
    have rwb : RowF V1 (w).heap.size (256 * 1) (fun _ => .int .u64 0) := by rw [← hV1]; exact RowF.made _ _ _ _ _ (by decide) (by intro j hj; match j, hj with | 0, _ => rfl)
    have L1 := Lib.hid (show V1.heap.size = (w).heap.size + 1 by rw [← hV1]; simp)
    have m1 : Mv (w.drew) V1 [] := by rw [← hV1]; exact (Mv.refl _ _).alloc _
    clear hV1
    refine hK.out _ _ trivial (fun hHeld => ?_)
    clear hK K
    refine wpAnyH_ready (rs := [4, 6]) (by kernel_rfl) (by simp) ?_
    refine AllReadyH.cons rfl (fun K hK => ?_) (AllReadyH.cons rfl (fun K hK => ?_) AllReadyH.nil)
    · refine step_make_alloc _ rfl (.tmp 9) 42 rfl 50 (.agg noL) 16 16 Try.underlying42 (by kernel_rfl) 1 ((1 : Nat) : Int) (by first | rfl | simp [Act.eval, Act.put, e4]) rfl (by decide) (by decide) ?_
      obtain ⟨V2, hV2⟩ : ∃ V2, (V1).alloc (.cells (madeCells (Value.cells (.agg noL)) (1 * 16)) 50) = V2 := ⟨_, rfl⟩
      rw [hV2]
      have rtb : RowF V2 (V1).heap.size (1 * 16) (fun _ => .bool false) := by rw [← hV2]; exact RowF.made _ _ _ _ _ (by decide) (fun j hj => noL_at j hj)
      have L2 := Lib.hid (show V2.heap.size = (V1).heap.size + 1 by rw [← hV2]; simp)
      have m2 : Mv (V1) V2 [] := by rw [← hV2]; exact (Mv.refl _ _).alloc _
      have rwb := rwb.mv m2 (by simp)
      clear hV2
      refine hK.out _ _ trivial (fun hHeld => ?_)
      clear hK K
      refine wpAnyH_ready (rs := [6]) (by kernel_rfl) (by simp) ?_
      refine AllReadyH.cons rfl (fun K hK => ?_) AllReadyH.nil
      · refine step_make_alloc _ rfl (.tmp 11) 42 rfl 50 (.agg noL) 16 16 Try.underlying42 (by kernel_rfl) 1 ((1 : Nat) : Int) (by first | rfl | simp [Act.eval, Act.put, e4]) rfl (by decide) (by decide) ?_
        obtain ⟨V3, hV3⟩ : ∃ V3, (V2).alloc (.cells (madeCells (Value.cells (.agg noL)) (1 * 16)) 50) = V3 := ⟨_, rfl⟩
        rw [hV3]
        have rmb : RowF V3 (V2).heap.size (1 * 16) (fun _ => .bool false) := by rw [← hV3]; exact RowF.made _ _ _ _ _ (by decide) (fun j hj => noL_at j hj)
        have L3 := Lib.hid (show V3.heap.size = (V2).heap.size + 1 by rw [← hV3]; simp)
        have m3 : Mv (V2) V3 [] := by rw [← hV3]; exact (Mv.refl _ _).alloc _
        have rwb := rwb.mv m3 (by simp)
        have rtb := rtb.mv m3 (by simp)
        clear hV3
        refine hK.out _ _ trivial (fun hHeld => ?_)
        clear hK K
        refine wpAnyH_take (i := 7) (v := ?v7x9) rfl (by kernel_rfl) (by kernel_rfl) (by kernel_rfl) (fun _ _ _ h => h) (Or.inl ⟨by rfl, ?y7x9⟩) hHeld ?r7x9
        case y7x9 =>
          intro W hSw
          go_simp
          all_goals (with_reducible rfl)
        change wpAnyH _ _ _ _ _ _ _ (Act.put _ (some 13) _) _
        simp only [Act.put, List.setIfInBounds_toArray, List.set_cons_zero, List.set_cons_succ]
        refine wpAnyH_ready (rs := [8]) (by kernel_rfl) (by simp) ?_
        refine AllReadyH.cons rfl (fun K hK => ?_) AllReadyH.nil
        go_simp
        have l1 := L1.out
        have l2 := L2.out
        have l3 := L3.out
        have FIN := Lib.hid (new_fin (nb := 1) (T := 46) (Nat.le_refl 1) (by decide) (N := 256) (by decide) rwb rtb rmb (by omega) (by omega) (by omega) ((((Mv.refl w []).drew.trans m1).trans m2).trans m3) (by show w.heap.size ≤ _; first | exact Nat.le_refl _ | omega) (by show w.heap.size ≤ _; first | exact Nat.le_refl _ | omega) (by show w.heap.size ≤ _; first | exact Nat.le_refl _ | omega))
        clear l1 l2 l3
        refine hK.out _ _ trivial (fun hHeld => ?_)
        clear hK K
        refine wpAnyH_take (i := 9) (v := ?v9y9) rfl (by kernel_rfl) (by kernel_rfl) (by kernel_rfl) (fun _ _ _ h => h) (Or.inl ⟨by rfl, ?y9y9⟩) hHeld ?r9y9
        case y9y9 =>
          intro W hSw
          go_simp
          all_goals (with_reducible rfl)
        change wpAnyH _ _ _ _ _ _ _ (Act.put _ (some 2) _) _
        simp only [Act.put, List.setIfInBounds_toArray, List.set_cons_zero, List.set_cons_succ]
        refine wpAnyH_done (by kernel_rfl) ?_ _
        go_wp2_with (fail)
        go_ret
        exact ⟨_, _, _, _, rfl, FIN.out⟩
    · refine step_make_alloc _ rfl (.tmp 11) 42 rfl 50 (.agg noL) 16 16 Try.underlying42 (by kernel_rfl) 1 ((1 : Nat) : Int) (by first | rfl | simp [Act.eval, Act.put, e4]) rfl (by decide) (by decide) ?_
      obtain ⟨V2, hV2⟩ : ∃ V2, (V1).alloc (.cells (madeCells (Value.cells (.agg noL)) (1 * 16)) 50) = V2 := ⟨_, rfl⟩
      rw [hV2]
      have rmb : RowF V2 (V1).heap.size (1 * 16) (fun _ => .bool false) := by rw [← hV2]; exact RowF.made _ _ _ _ _ (by decide) (fun j hj => noL_at j hj)
      have L2 := Lib.hid (show V2.heap.size = (V1).heap.size + 1 by rw [← hV2]; simp)
      have m2 : Mv (V1) V2 [] := by rw [← hV2]; exact (Mv.refl _ _).alloc _
      have rwb := rwb.mv m2 (by simp)
      clear hV2
      refine hK.out _ _ trivial (fun hHeld => ?_)
      clear hK K
      refine wpAnyH_ready (rs := [4]) (by kernel_rfl) (by simp) ?_
      refine AllReadyH.cons rfl (fun K hK => ?_) AllReadyH.nil
      · refine step_make_alloc _ rfl (.tmp 9) 42 rfl 50 (.agg noL) 16 16 Try.underlying42 (by kernel_rfl) 1 ((1 : Nat) : Int) (by first | rfl | simp [Act.eval, Act.put, e4]) rfl (by decide) (by decide) ?_
        obtain ⟨V3, hV3⟩ : ∃ V3, (V2).alloc (.cells (madeCells (Value.cells (.agg noL)) (1 * 16)) 50) = V3 := ⟨_, rfl⟩
        rw [hV3]
        have rtb : RowF V3 (V2).heap.size (1 * 16) (fun _ => .bool false) := by rw [← hV3]; exact RowF.made _ _ _ _ _ (by decide) (fun j hj => noL_at j hj)
        have L3 := Lib.hid (show V3.heap.size = (V2).heap.size + 1 by rw [← hV3]; simp)
        have m3 : Mv (V2) V3 [] := by rw [← hV3]; exact (Mv.refl _ _).alloc _
        have rwb := rwb.mv m3 (by simp)
        have rmb := rmb.mv m3 (by simp)
        clear hV3
        refine hK.out _ _ trivial (fun hHeld => ?_)
        clear hK K
        refine wpAnyH_take (i := 7) (v := ?v7x10) rfl (by kernel_rfl) (by kernel_rfl) (by kernel_rfl) (fun _ _ _ h => h) (Or.inl ⟨by rfl, ?y7x10⟩) hHeld ?r7x10
        case y7x10 =>
          intro W hSw
          go_simp
          all_goals (with_reducible rfl)
        change wpAnyH _ _ _ _ _ _ _ (Act.put _ (some 13) _) _
        simp only [Act.put, List.setIfInBounds_toArray, List.set_cons_zero, List.set_cons_succ]
        refine wpAnyH_ready (rs := [8]) (by kernel_rfl) (by simp) ?_
        refine AllReadyH.cons rfl (fun K hK => ?_) AllReadyH.nil
        go_simp
        have l1 := L1.out
        have l2 := L2.out
        have l3 := L3.out
        have FIN := Lib.hid (new_fin (nb := 1) (T := 46) (Nat.le_refl 1) (by decide) (N := 256) (by decide) rwb rtb rmb (by omega) (by omega) (by omega) ((((Mv.refl w []).drew.trans m1).trans m2).trans m3) (by show w.heap.size ≤ _; first | exact Nat.le_refl _ | omega) (by show w.heap.size ≤ _; first | exact Nat.le_refl _ | omega) (by show w.heap.size ≤ _; first | exact Nat.le_refl _ | omega))
        clear l1 l2 l3
        refine hK.out _ _ trivial (fun hHeld => ?_)
        clear hK K
        refine wpAnyH_take (i := 9) (v := ?v9y10) rfl (by kernel_rfl) (by kernel_rfl) (by kernel_rfl) (fun _ _ _ h => h) (Or.inl ⟨by rfl, ?y9y10⟩) hHeld ?r9y10
        case y9y10 =>
          intro W hSw
          go_simp
          all_goals (with_reducible rfl)
        change wpAnyH _ _ _ _ _ _ _ (Act.put _ (some 2) _) _
        simp only [Act.put, List.setIfInBounds_toArray, List.set_cons_zero, List.set_cons_succ]
        refine wpAnyH_done (by kernel_rfl) ?_ _
        go_wp2_with (fail)
        go_ret
        exact ⟨_, _, _, _, rfl, FIN.out⟩
  · refine step_make_alloc _ rfl (.tmp 9) 42 rfl 50 (.agg noL) 16 16 Try.underlying42 (by kernel_rfl) 1 ((1 : Nat) : Int) (by first | rfl | simp [Act.eval, Act.put, e4]) rfl (by decide) (by decide) ?_
    obtain ⟨V1, hV1⟩ : ∃ V1, (w.drew).alloc (.cells (madeCells (Value.cells (.agg noL)) (1 * 16)) 50) = V1 := ⟨_, rfl⟩
    rw [hV1]
    have rtb : RowF V1 (w).heap.size (1 * 16) (fun _ => .bool false) := by rw [← hV1]; exact RowF.made _ _ _ _ _ (by decide) (fun j hj => noL_at j hj)
    have L1 := Lib.hid (show V1.heap.size = (w).heap.size + 1 by rw [← hV1]; simp)
    have m1 : Mv (w.drew) V1 [] := by rw [← hV1]; exact (Mv.refl _ _).alloc _
    clear hV1
    refine hK.out _ _ trivial (fun hHeld => ?_)
    clear hK K
    refine wpAnyH_ready (rs := [2, 6]) (by kernel_rfl) (by simp) ?_
    refine AllReadyH.cons rfl (fun K hK => ?_) (AllReadyH.cons rfl (fun K hK => ?_) AllReadyH.nil)
    · refine step_make_alloc _ rfl (.tmp 7) 41 rfl 25 (.int .u64 0) 1 8 Try.underlying41 (by kernel_rfl) 256 ((256 : Nat) : Int) (by first | rfl | simp [Act.eval, Act.put, e4]) rfl (by decide) (by decide) ?_
      obtain ⟨V2, hV2⟩ : ∃ V2, (V1).alloc (.cells (madeCells (Value.cells (.int .u64 0)) (256 * 1)) 25) = V2 := ⟨_, rfl⟩
      rw [hV2]
      have rwb : RowF V2 (V1).heap.size (256 * 1) (fun _ => .int .u64 0) := by rw [← hV2]; exact RowF.made _ _ _ _ _ (by decide) (by intro j hj; match j, hj with | 0, _ => rfl)
      have L2 := Lib.hid (show V2.heap.size = (V1).heap.size + 1 by rw [← hV2]; simp)
      have m2 : Mv (V1) V2 [] := by rw [← hV2]; exact (Mv.refl _ _).alloc _
      have rtb := rtb.mv m2 (by simp)
      clear hV2
      refine hK.out _ _ trivial (fun hHeld => ?_)
      clear hK K
      refine wpAnyH_ready (rs := [6]) (by kernel_rfl) (by simp) ?_
      refine AllReadyH.cons rfl (fun K hK => ?_) AllReadyH.nil
      · refine step_make_alloc _ rfl (.tmp 11) 42 rfl 50 (.agg noL) 16 16 Try.underlying42 (by kernel_rfl) 1 ((1 : Nat) : Int) (by first | rfl | simp [Act.eval, Act.put, e4]) rfl (by decide) (by decide) ?_
        obtain ⟨V3, hV3⟩ : ∃ V3, (V2).alloc (.cells (madeCells (Value.cells (.agg noL)) (1 * 16)) 50) = V3 := ⟨_, rfl⟩
        rw [hV3]
        have rmb : RowF V3 (V2).heap.size (1 * 16) (fun _ => .bool false) := by rw [← hV3]; exact RowF.made _ _ _ _ _ (by decide) (fun j hj => noL_at j hj)
        have L3 := Lib.hid (show V3.heap.size = (V2).heap.size + 1 by rw [← hV3]; simp)
        have m3 : Mv (V2) V3 [] := by rw [← hV3]; exact (Mv.refl _ _).alloc _
        have rtb := rtb.mv m3 (by simp)
        have rwb := rwb.mv m3 (by simp)
        clear hV3
        refine hK.out _ _ trivial (fun hHeld => ?_)
        clear hK K
        refine wpAnyH_take (i := 7) (v := ?v7x11) rfl (by kernel_rfl) (by kernel_rfl) (by kernel_rfl) (fun _ _ _ h => h) (Or.inl ⟨by rfl, ?y7x11⟩) hHeld ?r7x11
        case y7x11 =>
          intro W hSw
          go_simp
          all_goals (with_reducible rfl)
        change wpAnyH _ _ _ _ _ _ _ (Act.put _ (some 13) _) _
        simp only [Act.put, List.setIfInBounds_toArray, List.set_cons_zero, List.set_cons_succ]
        refine wpAnyH_ready (rs := [8]) (by kernel_rfl) (by simp) ?_
        refine AllReadyH.cons rfl (fun K hK => ?_) AllReadyH.nil
        go_simp
        have l1 := L1.out
        have l2 := L2.out
        have l3 := L3.out
        have FIN := Lib.hid (new_fin (nb := 1) (T := 46) (Nat.le_refl 1) (by decide) (N := 256) (by decide) rwb rtb rmb (by omega) (by omega) (by omega) ((((Mv.refl w []).drew.trans m1).trans m2).trans m3) (by show w.heap.size ≤ _; first | exact Nat.le_refl _ | omega) (by show w.heap.size ≤ _; first | exact Nat.le_refl _ | omega) (by show w.heap.size ≤ _; first | exact Nat.le_refl _ | omega))
        clear l1 l2 l3
        refine hK.out _ _ trivial (fun hHeld => ?_)
        clear hK K
        refine wpAnyH_take (i := 9) (v := ?v9y11) rfl (by kernel_rfl) (by kernel_rfl) (by kernel_rfl) (fun _ _ _ h => h) (Or.inl ⟨by rfl, ?y9y11⟩) hHeld ?r9y11
        case y9y11 =>
          intro W hSw
          go_simp
          all_goals (with_reducible rfl)
        change wpAnyH _ _ _ _ _ _ _ (Act.put _ (some 2) _) _
        simp only [Act.put, List.setIfInBounds_toArray, List.set_cons_zero, List.set_cons_succ]
        refine wpAnyH_done (by kernel_rfl) ?_ _
        go_wp2_with (fail)
        go_ret
        exact ⟨_, _, _, _, rfl, FIN.out⟩
    · refine step_make_alloc _ rfl (.tmp 11) 42 rfl 50 (.agg noL) 16 16 Try.underlying42 (by kernel_rfl) 1 ((1 : Nat) : Int) (by first | rfl | simp [Act.eval, Act.put, e4]) rfl (by decide) (by decide) ?_
      obtain ⟨V2, hV2⟩ : ∃ V2, (V1).alloc (.cells (madeCells (Value.cells (.agg noL)) (1 * 16)) 50) = V2 := ⟨_, rfl⟩
      rw [hV2]
      have rmb : RowF V2 (V1).heap.size (1 * 16) (fun _ => .bool false) := by rw [← hV2]; exact RowF.made _ _ _ _ _ (by decide) (fun j hj => noL_at j hj)
      have L2 := Lib.hid (show V2.heap.size = (V1).heap.size + 1 by rw [← hV2]; simp)
      have m2 : Mv (V1) V2 [] := by rw [← hV2]; exact (Mv.refl _ _).alloc _
      have rtb := rtb.mv m2 (by simp)
      clear hV2
      refine hK.out _ _ trivial (fun hHeld => ?_)
      clear hK K
      refine wpAnyH_ready (rs := [2]) (by kernel_rfl) (by simp) ?_
      refine AllReadyH.cons rfl (fun K hK => ?_) AllReadyH.nil
      · refine step_make_alloc _ rfl (.tmp 7) 41 rfl 25 (.int .u64 0) 1 8 Try.underlying41 (by kernel_rfl) 256 ((256 : Nat) : Int) (by first | rfl | simp [Act.eval, Act.put, e4]) rfl (by decide) (by decide) ?_
        obtain ⟨V3, hV3⟩ : ∃ V3, (V2).alloc (.cells (madeCells (Value.cells (.int .u64 0)) (256 * 1)) 25) = V3 := ⟨_, rfl⟩
        rw [hV3]
        have rwb : RowF V3 (V2).heap.size (256 * 1) (fun _ => .int .u64 0) := by rw [← hV3]; exact RowF.made _ _ _ _ _ (by decide) (by intro j hj; match j, hj with | 0, _ => rfl)
        have L3 := Lib.hid (show V3.heap.size = (V2).heap.size + 1 by rw [← hV3]; simp)
        have m3 : Mv (V2) V3 [] := by rw [← hV3]; exact (Mv.refl _ _).alloc _
        have rtb := rtb.mv m3 (by simp)
        have rmb := rmb.mv m3 (by simp)
        clear hV3
        refine hK.out _ _ trivial (fun hHeld => ?_)
        clear hK K
        refine wpAnyH_take (i := 7) (v := ?v7x12) rfl (by kernel_rfl) (by kernel_rfl) (by kernel_rfl) (fun _ _ _ h => h) (Or.inl ⟨by rfl, ?y7x12⟩) hHeld ?r7x12
        case y7x12 =>
          intro W hSw
          go_simp
          all_goals (with_reducible rfl)
        change wpAnyH _ _ _ _ _ _ _ (Act.put _ (some 13) _) _
        simp only [Act.put, List.setIfInBounds_toArray, List.set_cons_zero, List.set_cons_succ]
        refine wpAnyH_ready (rs := [8]) (by kernel_rfl) (by simp) ?_
        refine AllReadyH.cons rfl (fun K hK => ?_) AllReadyH.nil
        go_simp
        have l1 := L1.out
        have l2 := L2.out
        have l3 := L3.out
        have FIN := Lib.hid (new_fin (nb := 1) (T := 46) (Nat.le_refl 1) (by decide) (N := 256) (by decide) rwb rtb rmb (by omega) (by omega) (by omega) ((((Mv.refl w []).drew.trans m1).trans m2).trans m3) (by show w.heap.size ≤ _; first | exact Nat.le_refl _ | omega) (by show w.heap.size ≤ _; first | exact Nat.le_refl _ | omega) (by show w.heap.size ≤ _; first | exact Nat.le_refl _ | omega))
        clear l1 l2 l3
        refine hK.out _ _ trivial (fun hHeld => ?_)
        clear hK K
        refine wpAnyH_take (i := 9) (v := ?v9y12) rfl (by kernel_rfl) (by kernel_rfl) (by kernel_rfl) (fun _ _ _ h => h) (Or.inl ⟨by rfl, ?y9y12⟩) hHeld ?r9y12
        case y9y12 =>
          intro W hSw
          go_simp
          all_goals (with_reducible rfl)
        change wpAnyH _ _ _ _ _ _ _ (Act.put _ (some 2) _) _
        simp only [Act.put, List.setIfInBounds_toArray, List.set_cons_zero, List.set_cons_succ]
        refine wpAnyH_done (by kernel_rfl) ?_ _
        go_wp2_with (fail)
        go_ret
        exact ⟨_, _, _, _, rfl, FIN.out⟩
  · refine step_make_alloc _ rfl (.tmp 11) 42 rfl 50 (.agg noL) 16 16 Try.underlying42 (by kernel_rfl) 1 ((1 : Nat) : Int) (by first | rfl | simp [Act.eval, Act.put, e4]) rfl (by decide) (by decide) ?_
    obtain ⟨V1, hV1⟩ : ∃ V1, (w.drew).alloc (.cells (madeCells (Value.cells (.agg noL)) (1 * 16)) 50) = V1 := ⟨_, rfl⟩
    rw [hV1]
    have rmb : RowF V1 (w).heap.size (1 * 16) (fun _ => .bool false) := by rw [← hV1]; exact RowF.made _ _ _ _ _ (by decide) (fun j hj => noL_at j hj)
    have L1 := Lib.hid (show V1.heap.size = (w).heap.size + 1 by rw [← hV1]; simp)
    have m1 : Mv (w.drew) V1 [] := by rw [← hV1]; exact (Mv.refl _ _).alloc _
    clear hV1
    refine hK.out _ _ trivial (fun hHeld => ?_)
    clear hK K
    refine wpAnyH_ready (rs := [2, 4]) (by kernel_rfl) (by simp) ?_
    refine AllReadyH.cons rfl (fun K hK => ?_) (AllReadyH.cons rfl (fun K hK => ?_) AllReadyH.nil)
    · refine step_make_alloc _ rfl (.tmp 7) 41 rfl 25 (.int .u64 0) 1 8 Try.underlying41 (by kernel_rfl) 256 ((256 : Nat) : Int) (by first | rfl | simp [Act.eval, Act.put, e4]) rfl (by decide) (by decide) ?_
      obtain ⟨V2, hV2⟩ : ∃ V2, (V1).alloc (.cells (madeCells (Value.cells (.int .u64 0)) (256 * 1)) 25) = V2 := ⟨_, rfl⟩
      rw [hV2]
      have rwb : RowF V2 (V1).heap.size (256 * 1) (fun _ => .int .u64 0) := by rw [← hV2]; exact RowF.made _ _ _ _ _ (by decide) (by intro j hj; match j, hj with | 0, _ => rfl)
      have L2 := Lib.hid (show V2.heap.size = (V1).heap.size + 1 by rw [← hV2]; simp)
      have m2 : Mv (V1) V2 [] := by rw [← hV2]; exact (Mv.refl _ _).alloc _
      have rmb := rmb.mv m2 (by simp)
      clear hV2
      refine hK.out _ _ trivial (fun hHeld => ?_)
      clear hK K
      refine wpAnyH_ready (rs := [4]) (by kernel_rfl) (by simp) ?_
      refine AllReadyH.cons rfl (fun K hK => ?_) AllReadyH.nil
      · refine step_make_alloc _ rfl (.tmp 9) 42 rfl 50 (.agg noL) 16 16 Try.underlying42 (by kernel_rfl) 1 ((1 : Nat) : Int) (by first | rfl | simp [Act.eval, Act.put, e4]) rfl (by decide) (by decide) ?_
        obtain ⟨V3, hV3⟩ : ∃ V3, (V2).alloc (.cells (madeCells (Value.cells (.agg noL)) (1 * 16)) 50) = V3 := ⟨_, rfl⟩
        rw [hV3]
        have rtb : RowF V3 (V2).heap.size (1 * 16) (fun _ => .bool false) := by rw [← hV3]; exact RowF.made _ _ _ _ _ (by decide) (fun j hj => noL_at j hj)
        have L3 := Lib.hid (show V3.heap.size = (V2).heap.size + 1 by rw [← hV3]; simp)
        have m3 : Mv (V2) V3 [] := by rw [← hV3]; exact (Mv.refl _ _).alloc _
        have rmb := rmb.mv m3 (by simp)
        have rwb := rwb.mv m3 (by simp)
        clear hV3
        refine hK.out _ _ trivial (fun hHeld => ?_)
        clear hK K
        refine wpAnyH_take (i := 7) (v := ?v7x13) rfl (by kernel_rfl) (by kernel_rfl) (by kernel_rfl) (fun _ _ _ h => h) (Or.inl ⟨by rfl, ?y7x13⟩) hHeld ?r7x13
        case y7x13 =>
          intro W hSw
          go_simp
          all_goals (with_reducible rfl)
        change wpAnyH _ _ _ _ _ _ _ (Act.put _ (some 13) _) _
        simp only [Act.put, List.setIfInBounds_toArray, List.set_cons_zero, List.set_cons_succ]
        refine wpAnyH_ready (rs := [8]) (by kernel_rfl) (by simp) ?_
        refine AllReadyH.cons rfl (fun K hK => ?_) AllReadyH.nil
        go_simp
        have l1 := L1.out
        have l2 := L2.out
        have l3 := L3.out
        have FIN := Lib.hid (new_fin (nb := 1) (T := 46) (Nat.le_refl 1) (by decide) (N := 256) (by decide) rwb rtb rmb (by omega) (by omega) (by omega) ((((Mv.refl w []).drew.trans m1).trans m2).trans m3) (by show w.heap.size ≤ _; first | exact Nat.le_refl _ | omega) (by show w.heap.size ≤ _; first | exact Nat.le_refl _ | omega) (by show w.heap.size ≤ _; first | exact Nat.le_refl _ | omega))
        clear l1 l2 l3
        refine hK.out _ _ trivial (fun hHeld => ?_)
        clear hK K
        refine wpAnyH_take (i := 9) (v := ?v9y13) rfl (by kernel_rfl) (by kernel_rfl) (by kernel_rfl) (fun _ _ _ h => h) (Or.inl ⟨by rfl, ?y9y13⟩) hHeld ?r9y13
        case y9y13 =>
          intro W hSw
          go_simp
          all_goals (with_reducible rfl)
        change wpAnyH _ _ _ _ _ _ _ (Act.put _ (some 2) _) _
        simp only [Act.put, List.setIfInBounds_toArray, List.set_cons_zero, List.set_cons_succ]
        refine wpAnyH_done (by kernel_rfl) ?_ _
        go_wp2_with (fail)
        go_ret
        exact ⟨_, _, _, _, rfl, FIN.out⟩
    · refine step_make_alloc _ rfl (.tmp 9) 42 rfl 50 (.agg noL) 16 16 Try.underlying42 (by kernel_rfl) 1 ((1 : Nat) : Int) (by first | rfl | simp [Act.eval, Act.put, e4]) rfl (by decide) (by decide) ?_
      obtain ⟨V2, hV2⟩ : ∃ V2, (V1).alloc (.cells (madeCells (Value.cells (.agg noL)) (1 * 16)) 50) = V2 := ⟨_, rfl⟩
      rw [hV2]
      have rtb : RowF V2 (V1).heap.size (1 * 16) (fun _ => .bool false) := by rw [← hV2]; exact RowF.made _ _ _ _ _ (by decide) (fun j hj => noL_at j hj)
      have L2 := Lib.hid (show V2.heap.size = (V1).heap.size + 1 by rw [← hV2]; simp)
      have m2 : Mv (V1) V2 [] := by rw [← hV2]; exact (Mv.refl _ _).alloc _
      have rmb := rmb.mv m2 (by simp)
      clear hV2
      refine hK.out _ _ trivial (fun hHeld => ?_)
      clear hK K
      refine wpAnyH_ready (rs := [2]) (by kernel_rfl) (by simp) ?_
      refine AllReadyH.cons rfl (fun K hK => ?_) AllReadyH.nil
      · refine step_make_alloc _ rfl (.tmp 7) 41 rfl 25 (.int .u64 0) 1 8 Try.underlying41 (by kernel_rfl) 256 ((256 : Nat) : Int) (by first | rfl | simp [Act.eval, Act.put, e4]) rfl (by decide) (by decide) ?_
        obtain ⟨V3, hV3⟩ : ∃ V3, (V2).alloc (.cells (madeCells (Value.cells (.int .u64 0)) (256 * 1)) 25) = V3 := ⟨_, rfl⟩
        rw [hV3]
        have rwb : RowF V3 (V2).heap.size (256 * 1) (fun _ => .int .u64 0) := by rw [← hV3]; exact RowF.made _ _ _ _ _ (by decide) (by intro j hj; match j, hj with | 0, _ => rfl)
        have L3 := Lib.hid (show V3.heap.size = (V2).heap.size + 1 by rw [← hV3]; simp)
        have m3 : Mv (V2) V3 [] := by rw [← hV3]; exact (Mv.refl _ _).alloc _
        have rmb := rmb.mv m3 (by simp)
        have rtb := rtb.mv m3 (by simp)
        clear hV3
        refine hK.out _ _ trivial (fun hHeld => ?_)
        clear hK K
        refine wpAnyH_take (i := 7) (v := ?v7x14) rfl (by kernel_rfl) (by kernel_rfl) (by kernel_rfl) (fun _ _ _ h => h) (Or.inl ⟨by rfl, ?y7x14⟩) hHeld ?r7x14
        case y7x14 =>
          intro W hSw
          go_simp
          all_goals (with_reducible rfl)
        change wpAnyH _ _ _ _ _ _ _ (Act.put _ (some 13) _) _
        simp only [Act.put, List.setIfInBounds_toArray, List.set_cons_zero, List.set_cons_succ]
        refine wpAnyH_ready (rs := [8]) (by kernel_rfl) (by simp) ?_
        refine AllReadyH.cons rfl (fun K hK => ?_) AllReadyH.nil
        go_simp
        have l1 := L1.out
        have l2 := L2.out
        have l3 := L3.out
        have FIN := Lib.hid (new_fin (nb := 1) (T := 46) (Nat.le_refl 1) (by decide) (N := 256) (by decide) rwb rtb rmb (by omega) (by omega) (by omega) ((((Mv.refl w []).drew.trans m1).trans m2).trans m3) (by show w.heap.size ≤ _; first | exact Nat.le_refl _ | omega) (by show w.heap.size ≤ _; first | exact Nat.le_refl _ | omega) (by show w.heap.size ≤ _; first | exact Nat.le_refl _ | omega))
        clear l1 l2 l3
        refine hK.out _ _ trivial (fun hHeld => ?_)
        clear hK K
        refine wpAnyH_take (i := 9) (v := ?v9y14) rfl (by kernel_rfl) (by kernel_rfl) (by kernel_rfl) (fun _ _ _ h => h) (Or.inl ⟨by rfl, ?y9y14⟩) hHeld ?r9y14
        case y9y14 =>
          intro W hSw
          go_simp
          all_goals (with_reducible rfl)
        change wpAnyH _ _ _ _ _ _ _ (Act.put _ (some 2) _) _
        simp only [Act.put, List.setIfInBounds_toArray, List.set_cons_zero, List.set_cons_succ]
        refine wpAnyH_done (by kernel_rfl) ?_ _
        go_wp2_with (fail)
        go_ret
        exact ⟨_, _, _, _, rfl, FIN.out⟩
end LM
end Go.Proofs.Ytghnaiinhbdgcaa
