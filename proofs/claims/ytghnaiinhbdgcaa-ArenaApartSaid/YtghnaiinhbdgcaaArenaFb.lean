/- Walks of package arena: Empty, Free. -/
import Derived.Test.YtghnaiinhbdgcaaArenaF
namespace Go.Proofs.Ytghnaiinhbdgcaa
open Go Go.RowKit
namespace LM
set_option linter.unusedVariables false

set_option maxRecDepth 100000 in
set_option maxHeartbeats 4000000 in
theorem acountE (A : Ar) (w : World) (h : AR w A) :
    Calls Try.prog 18 #[.slice (some ⟨A.tb, 0, none⟩) A.nb A.nb, .agg noL] w fun e w' => e = .returned (.int .i64 ((cntE A.T A.nb : Nat) : Int)) ∧ Mv w w' [] := by
  obtain ⟨W0, hW0⟩ : ∃ W0, w.alloc (.cells noL 50) = W0 := ⟨_, rfl⟩
  have h0 : AR W0 A := by rw [← hW0]; exact h.alloc _
  have hm0 : Mv w W0 [] := by rw [← hW0]; exact (Mv.refl _ _).alloc _
  have hr : RowF W0 w.heap.size 16 (fun _ => .bool false) := by
    rw [← hW0]
    exact RowF.new w _ _ rfl noL_at
  have HW0 := Lib.hid hW0
  have HH := Lib.hid h0
  have HR := Lib.hid hr
  have HM := Lib.hid hm0
  obtain ⟨N, hN⟩ : ∃ N, A.nb = N := ⟨_, rfl⟩
  have HN := Lib.hid (And.intro hN h.n2)
  rw [hN]
  obtain ⟨tb, htb⟩ : ∃ tb, A.tb = tb := ⟨_, rfl⟩
  have HT := Lib.hid htb
  rw [htb]
  clear h hW0 h0 hm0 hr hN htb
  go_enter Try.func18, Try.ntmps18
  go_wp2_with (fail)
  rw [HW0.out]
  go_wp2_with (fail)
  go_loopg [5, 10] N (fun kk av iv wr => ∃ i a : Nat, av = .int .i64 (a : Int) ∧ iv = .int .i64 (i : Int) ∧ kk = N - i ∧ i ≤ N ∧ Hid (a = cntE A.T i ∧ Mv W0 wr []))
  case atStart => exact ⟨0, 0, rfl, rfl, rfl, Nat.zero_le _, Lib.hid ⟨rfl, Mv.refl _ _⟩⟩
  case round =>
    obtain ⟨i, a, rfl, rfl, hk, hi, hh⟩ := hrel
    obtain ⟨ha, hm⟩ := hh.out
    have hle := cntE_le A.T i
    obtain ⟨hN, hn2⟩ := HN.out
    by_cases hin : i < N
    · have hA := HH.out.mv hm (by simp)
      have RG := Lib.hid (show wr.rangeAt tb (i * 16) (blV A.T i) by have h9 := hA.rt.blk (j := i) (by omega); rw [HT.out] at h9; exact h9)
      have hz := HR.out.mv hm (by simp)
      have a1 : (i : Int) < (N : Int) := by omega
      have hb : i ≤ 4096 := Nat.le_trans hi (hN ▸ hn2)
      have e1 : RowKit.wrap64 ((i : Int) + 1) = ((i + 1 : Nat) : Int) := wrap1 (Nat.le_trans hb (by decide))
      have e2 : RowKit.wrap64 ((a : Int) + 1) = ((a + 1 : Nat) : Int) := wrap1 (Nat.le_trans (ha ▸ hle) (Nat.le_trans hb (by decide)))
      have R1 := Lib.hid (show (if emp A.T i then a + 1 else a) = cntE A.T (i + 1) by rw [cntE, ← ha]; split <;> rfl)
      have EQ := Lib.hid (fun W => lines_eql2 A.T i W)
      have HZ := Lib.hid hz
      have HK := Lib.hid hk
      have HI := Lib.hid hin
      have HMR := Lib.hid hm
      clear ha hle hn2 hN hk hh hA hz hm
      go_upto_region 5 with (first
        | (refine wpList_load_mid rfl 50 (.tmp 12) rfl tb (i * 16) (by simp [Act.eval, Act.put]) (blV A.T i) _ RG.out arr_zero arr_row (blV_info _ _) ?_)
        | (refine wpList_store_mid rfl 50 (.tmp 7) (.tmp 13) rfl wr.heap.size 0 (blV A.T i).toArray (by simp [Act.eval, Act.put]) (by simp [Act.eval, Act.put]) (there_new _ _ _ _ (by rw [blV_size]; decide)) (blV_info2 _ _) (blV_all _ _) ?_))
      generalize hW3 : World.setCells _ _ _ _ = W3
      have r3 : W3.rangeAt wr.heap.size 0 (blV A.T i) := by
        rw [← hW3]
        exact World.rangeAt_setCells_same _ _ _ _ (there_new _ _ _ _ (by rw [blV_len]; decide))
      have m3 : Mv wr W3 [] := by
        rw [← hW3]
        exact Mv.setCells (.inr (Nat.le_refl _)) _ _ ((Mv.refl _ _).alloc _)
      have z3 : W3.rangeAt w.heap.size 0 noV := by
        intro k v hv
        have hk : k < 16 := by
          have := (List.getElem?_eq_some_iff.1 hv).1
          rwa [noV_len] at this
        rw [noV, blV_at _ _ _ hk] at hv
        rw [← hv, Nat.zero_add]
        exact (HZ.out.mv m3 (by simp)).cell hk
      have R3 := Lib.hid r3
      have Z3 := Lib.hid z3
      have M3 := Lib.hid (HMR.out.trans m3)
      clear r3 m3 z3 hW3 RG HZ
      obtain ⟨v, hv⟩ : ∃ v, emp A.T i = v := ⟨_, rfl⟩
      rw [hv] at EQ R1
      clear hv
      have EQ3 := Lib.hid (EQ.out W3)
      have M4 := Lib.hid (show Mv W0 W3 [] from M3.out)
      cases v
      · go_wp2_with (first
          | (refine wpList_load_mid rfl 50 (.tmp 7) rfl wr.heap.size 0 (by simp [Act.eval, Act.put]) (blV A.T i) _ R3.out arr_zero arr_row (blV_info _ _) ?_)
          | (refine wpList_load_mid rfl 50 (.tmp 3) rfl w.heap.size 0 (by simp [Act.eval, Act.put]) noV _ Z3.out arr_zero arr_row noV_info ?_)
          | (refine wpList_eql_agg rfl 50 50 (.tmp 14) (.tmp 15) rfl (blV A.T i).toArray noV.toArray false (by simp [Act.eval, Act.put]) (by simp [Act.eval, Act.put]) lines_guard EQ3.out ?_))
        go_roundg (N - (i + 1))
        case measure => have h1 := HK.out; have h2 := HI.out; omega
        case rel => exact ⟨i + 1, a, rfl, by first | rfl | rw [e1], rfl, HI.out, Lib.hid ⟨by rw [← R1.out]; rfl, M4.out⟩⟩
      · go_wp2_with (first
          | (refine wpList_load_mid rfl 50 (.tmp 7) rfl wr.heap.size 0 (by simp [Act.eval, Act.put]) (blV A.T i) _ R3.out arr_zero arr_row (blV_info _ _) ?_)
          | (refine wpList_load_mid rfl 50 (.tmp 3) rfl w.heap.size 0 (by simp [Act.eval, Act.put]) noV _ Z3.out arr_zero arr_row noV_info ?_)
          | (refine wpList_eql_agg rfl 50 50 (.tmp 14) (.tmp 15) rfl (blV A.T i).toArray noV.toArray true (by simp [Act.eval, Act.put]) (by simp [Act.eval, Act.put]) lines_guard EQ3.out ?_))
        go_roundg (N - (i + 1))
        case measure => have h1 := HK.out; have h2 := HI.out; omega
        case rel => exact ⟨i + 1, a + 1, by first | rfl | rw [e2], by first | rfl | rw [e1], rfl, HI.out, Lib.hid ⟨by rw [← R1.out]; rfl, M4.out⟩⟩
    · obtain rfl : i = N := by omega
      have a1 : ¬ (i : Int) < (i : Int) := by omega
      have HA := Lib.hid ha
      have HMR := Lib.hid hm
      clear ha hle hm
      go_wp2_with (fail)
      go_ret
      exact ⟨by rw [HA.out]; rfl, HM.out.trans HMR.out⟩
set_option maxRecDepth 100000 in
theorem aempty (A : Ar) (w : World) (h : AR w A) :
    Calls Try.prog 10 #[.pointer (some ⟨A.b, 0, none⟩)] w fun e w' => e = .returned (.int .i64 ((cntE A.T A.nb : Nat) : Int)) ∧ Mv w w' [] := by
  have L := Lib.hid (acountE A w h)
  have c0 := h.c1
  obtain ⟨v, hv⟩ : ∃ v, cntE A.T A.nb = v := ⟨_, rfl⟩
  rw [hv] at L ⊢
  clear h hv
  go_enter Try.func10, Try.ntmps10
  go_wp2_with (fail)
  refine L.out.mono ?_
  rintro e w2 ⟨rfl, m2⟩
  have M2 := Lib.hid m2
  clear m2
  go_wp2_with (fail)
  go_ret
  exact ⟨rfl, M2.out⟩
set_option maxRecDepth 100000 in
theorem afree (A : Ar) (k : Nat) (w : World) (h : AR w A) (hk : k < A.nb) :
    Calls Try.prog 16 #[.pointer (some ⟨A.b, 0, none⟩), .int .i64 (k : Int)] w fun e w' => e = .returned (.int .i64 ((cntB A.T (k * 16) 16 : Nat) : Int)) ∧ w = w' := by
  have L := Lib.hid (acountB A.tb (k * 16) 16 16 A.T w (by decide) (fun i hi => h.cT (by omega)))
  have c0 := h.c1
  have hn2 := h.n2
  obtain ⟨v, hv⟩ : ∃ v, cntB A.T (k * 16) 16 = v := ⟨_, rfl⟩
  rw [hv] at L ⊢
  have a1 : ¬ (k : Int) < 0 := by omega
  have a2 : (k : Int) < (A.nb : Int) := by omega
  have a3 : (0 : Int) ≤ (k : Int) := by omega
  have a4 : ¬ (A.nb : Int) ≤ (k : Int) := by omega
  have d1 : decide ((k : Int) < 0) = false := decide_eq_false a1
  have d2 : decide ((A.nb : Int) ≤ (k : Int)) = false := decide_eq_false a4
  clear h hv hn2
  go_enter Try.func16, Try.ntmps16
  go_wp2_with (fail)
  refine L.out.mono ?_
  rintro e w2 ⟨rfl, rfl⟩
  go_wp2_with (fail)
  go_ret
  exact ⟨rfl, rfl⟩

end LM
end Go.Proofs.Ytghnaiinhbdgcaa
