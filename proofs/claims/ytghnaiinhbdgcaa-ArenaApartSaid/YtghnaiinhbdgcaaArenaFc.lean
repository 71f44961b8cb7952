/- Walks of package arena: takeBlock. -/
import Derived.Test.YtghnaiinhbdgcaaArenaFb
namespace Go.Proofs.Ytghnaiinhbdgcaa
open Go Go.RowKit
namespace LM
set_option linter.unusedVariables false

/-- what takeBlock answers -/
def RB (A : Ar) (o : Nat) (w : World) (R : Option Nat) (e : Ending) (w' : World) : Prop :=
  match R with
  | none => e = .returned (.bool false) ∧ AR w' A ∧ Mv w w' A.blks
  | some k => e = .returned (.bool true) ∧ AR w' (A.tak o (16 * k) (16 * k + 16)) ∧ Mv w w' A.blks
set_option maxRecDepth 100000 in
set_option maxHeartbeats 4000000 in
theorem atakeB (A : Ar) (o : Nat) (w : World) (h : AR w A) (o3 : 3 ≤ o) (o8 : o ≤ 8) :
    Calls Try.prog 20 #[.pointer (some ⟨A.b, 0, none⟩), .pointer (some ⟨A.b, o, none⟩)] w fun e w' => RB A o w (lastE A.T A.nb) e w' := by
  have c1 := h.c1
  have hn1 := h.n1
  have hn2 := h.n2
  have HH := Lib.hid h
  have HO := Lib.hid (And.intro o3 o8)
  obtain ⟨N, hN⟩ : ∃ N, A.nb = N := ⟨_, rfl⟩
  rw [hN] at c1 hn1 hn2
  have e0 : RowKit.wrap64 ((N : Int) - 1) = (N : Int) - 1 := wrapi ⟨by omega, by omega⟩
  have HN := Lib.hid (And.intro hN hn2)
  obtain ⟨R, hR⟩ : ∃ R, lastE A.T A.nb = R := ⟨_, rfl⟩
  rw [hR]
  rw [hN] at hR
  have HR := Lib.hid hR
  have HE0 := Lib.hid e0
  clear h o3 o8 hN hn1 hn2 hR e0
  go_enter Try.func20, Try.ntmps20
  go_wp2_with (fail)
  go_loopg [5] N (fun kk bv wr => ∃ j : Nat, bv = .int .i64 ((j : Int) - 1) ∧ kk = j ∧ j ≤ N ∧ Hid (w = wr ∧ lastE A.T j = R))
  case atStart => exact ⟨N, by rw [HE0.out], rfl, Nat.le_refl _, Lib.hid ⟨rfl, HR.out⟩⟩
  case round =>
    obtain ⟨j, rfl, hk, hj, hh⟩ := hrel
    obtain ⟨rfl, hl⟩ := hh.out
    obtain ⟨hN, hn2⟩ := HN.out
    rcases j with _ | k
    · have HL := Lib.hid (show R = none from hl.symm)
      have d1 : decide ((0 : Int) ≤ ((0 : Nat) : Int) - 1) = false := by decide
      have FF := Lib.hid (show RB A o w R (.returned (.bool false)) w by rw [HL.out]; exact ⟨rfl, HH.out, Mv.refl _ _⟩)
      clear hl hk hh hN hn2
      go_wp2_with (fail)
      go_ret
      exact FF.out
    · have hkb : k < A.nb := by omega
      have RG := Lib.hid (show w.rangeAt A.tb (k * 16) (blV A.T k) from HH.out.rt.blk hkb)
      have EQ := Lib.hid (lines_eql A.T k w)
      have x1 : ((k + 1 : Nat) : Int) - 1 = (k : Int) := by omega
      rw [x1]
      have a1 : (k : Int) < (N : Int) := by omega
      have a2 : (0 : Int) ≤ (k : Int) := by omega
      obtain ⟨X, hX⟩ : ∃ X, k * 256 = X := ⟨_, rfl⟩
      obtain ⟨Y, hY⟩ : ∃ Y, X + 256 = Y := ⟨_, rfl⟩
      have e1 : RowKit.wrap64 ((k : Int) * 256) = (X : Int) := (wrapn (n := k * 256) (by omega)).trans (by rw [hX])
      have e2 : RowKit.wrap64 ((X : Int) + 256) = (Y : Int) := (wrapn (n := X + 256) (by omega)).trans (by rw [hY])
      have e3 : RowKit.wrap64 ((k : Int) - 1) = (k : Int) - 1 := wrapi ⟨by omega, by omega⟩
      obtain ⟨v, hv⟩ : ∃ v, emp A.T k = v := ⟨_, rfl⟩
      have hl2 : (if v = true then some k else lastE A.T k) = R := by rw [← hl, lastE, hv]
      have TK := Lib.hid (atake A o (16 * k) (16 * k + 16) X Y w HH.out HO.out.1 HO.out.2 (by omega) (by omega) (by omega) (by omega))
      rw [hv] at EQ
      have HK := Lib.hid (And.intro hk hj)
      have HXY := Lib.hid (show (X : Int) = ((16 * (16 * k) : Nat) : Int) ∧ (Y : Int) = ((16 * (16 * k + 16) : Nat) : Int) by omega)
      clear hl hk hh hN hn2 hkb hv x1 hj hX hY
      cases v
      · have HL := Lib.hid (show lastE A.T k = R from hl2)
        clear hl2
        go_wp2_with (first
          | (refine wpList_load_mid rfl 50 (.tmp 22) rfl A.tb (k * 16) (by simp [Act.eval, Act.put]) (blV A.T k) _ RG.out arr_zero arr_row (blV_info _ _) ?_)
          | (refine wpList_eql_agg rfl 50 50 (.tmp 23) (.tmp 24) rfl (blV A.T k).toArray noL false (by simp [Act.eval, Act.put]) (by simp [Act.eval, Act.put]) lines_guard EQ.out ?_))
        go_roundg k
        case measure => have h1 := HK.out; omega
        case rel => exact ⟨k, by first | rfl | rw [e3], rfl, by have h1 := HK.out; omega, Lib.hid ⟨rfl, HL.out⟩⟩
      · obtain rfl : some k = R := hl2
        go_wp2_with (first
          | (refine wpList_load_mid rfl 50 (.tmp 22) rfl A.tb (k * 16) (by simp [Act.eval, Act.put]) (blV A.T k) _ RG.out arr_zero arr_row (blV_info _ _) ?_)
          | (refine wpList_eql_agg rfl 50 50 (.tmp 23) (.tmp 24) rfl (blV A.T k).toArray noL true (by simp [Act.eval, Act.put]) (by simp [Act.eval, Act.put]) lines_guard EQ.out ?_))
        refine TK.out.mono ?_
        rintro e w2 ⟨rfl, hA, hm⟩
        have FF := Lib.hid (show RB A o w (some k) (.returned (.bool true)) w2 from ⟨rfl, by have h9 := hA; rw [HXY.out.1, HXY.out.2] at h9; exact h9, hm⟩)
        clear hA hm
        go_wp2_with (fail)
        go_ret
        exact FF.out
end LM
end Go.Proofs.Ytghnaiinhbdgcaa
