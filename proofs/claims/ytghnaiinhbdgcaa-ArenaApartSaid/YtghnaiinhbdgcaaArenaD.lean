/- Walks of package arena: take. -/
import Derived.Test.YtghnaiinhbdgcaaArenaC
namespace Go.Proofs.Ytghnaiinhbdgcaa
open Go Go.RowKit
namespace LM
set_option linter.unusedVariables false

set_option maxRecDepth 100000 in
set_option maxHeartbeats 4000000 in
theorem atake (A : Ar) (o x y X Y : Nat) (w : World) (h : AR w A) (o3 : 3 ≤ o) (o8 : o ≤ 8) (hxy : x ≤ y) (hy : y ≤ 16 * A.nb) (hX : X = 16 * x) (hY : Y = 16 * y) :
    Calls Try.prog 25 #[.pointer (some ⟨A.b, 0, none⟩), .pointer (some ⟨A.b, o, none⟩), .agg #[.int .i64 (X : Int), .int .i64 (Y : Int)]] w fun e w' => e = .returned (.tuple #[]) ∧ AR w' { A with T := tk A.T x y, F := upd (upd A.F o (X : Int)) (o + 1) (Y : Int) } ∧ Mv w w' A.blks := by
  obtain ⟨W0, hW0⟩ : ∃ W0, w.alloc (.cells #[.int .i64 (X : Int), .int .i64 (Y : Int)] 44) = W0 := ⟨_, rfl⟩
  have h0 : AR W0 A := by rw [← hW0]; exact h.alloc _
  have hm0 : Mv w W0 A.blks := by rw [← hW0]; exact (Mv.refl _ _).alloc _
  have hr : RowF W0 w.heap.size 2 (fun i => if i = 0 then .int .i64 (X : Int) else .int .i64 (Y : Int)) := by
    rw [← hW0]
    refine RowF.new w _ _ rfl fun i hi => ?_
    match i, hi with
    | 0, _ => rfl
    | 1, _ => rfl
  have hlt := h.lt
  have hs : ∀ k ∈ A.blks, k ≠ w.heap.size := fun k hk e => by have := h.lt k hk; omega
  have HW0 := Lib.hid hW0
  have HH := Lib.hid h0
  have HR := Lib.hid hr
  have HM := Lib.hid hm0
  have HS := Lib.hid hs
  have HO := Lib.hid (And.intro o3 o8)
  have HXY := Lib.hid (And.intro hxy (And.intro hy (And.intro hX (And.intro hY h.n2))))
  have d0 := hr.cell (i := 0) (by decide)
  have d1 := hr.cell (i := 1) (by decide)
  rw [if_pos rfl] at d0
  rw [if_neg (by decide)] at d1
  clear h h0 hm0 hr hs hlt hW0 o3 o8 hxy hy hX hY
  go_enter Try.func25, Try.ntmps25
  go_wp2_with (fail)
  rw [HW0.out]
  go_wp2_with (fail)
  go_loopg [6] (Y - X) (fun kk av wr => ∃ j a : Nat, av = .int .i64 (a : Int) ∧ kk = Y - a ∧ Hid (a = 16 * j ∧ x ≤ j ∧ j ≤ y ∧ AR wr { A with T := tk A.T x j } ∧ Mv W0 wr A.blks))
  case atStart =>
    obtain ⟨h1, h2, h3, h4, h5⟩ := HXY.out
    exact ⟨x, X, rfl, rfl, Lib.hid ⟨h3, Nat.le_refl _, h1, by rw [tk_self]; exact HH.out, Mv.refl _ _⟩⟩
  case round =>
    obtain ⟨j, a, rfl, hk, hh⟩ := hrel
    obtain ⟨ha, hxj, hjy, hA, hmv⟩ := hh.out
    obtain ⟨h1, h2, h3, h4, h5⟩ := HXY.out
    have hRr := HR.out.mv hmv (fun e => HS.out _ e rfl)
    have e0 := hRr.cell (i := 0) (by decide)
    have e1 := hRr.cell (i := 1) (by decide)
    rw [if_pos rfl] at e0
    rw [if_neg (by decide)] at e1
    have HK := Lib.hid hk
    by_cases hlt : j < y
    · have c1 := hA.c1
      dsimp only at c1
      have aj : a / 16 = j := by omega
      have CS := Lib.hid (aset A.tb A.nb a _ wr (by omega) h5 (by rw [aj]; exact hA.cT (by dsimp only; omega)) (by rw [aj]; exact hA.fT _))
      rw [aj] at CS
      have a1 : (a : Int) < (Y : Int) := by omega
      have e2 : RowKit.wrap64 ((a : Int) + 16) = ((a + 16 : Nat) : Int) := by unfold RowKit.wrap64; omega
      have HA := Lib.hid (show AR (wr.setCell ⟨A.tb, j, none⟩ (.bool true)) { A with T := tk A.T x (j + 1) } by have h9 := hA.setT j true; dsimp only at h9; rw [tk_step A.T hxj] at h9; exact h9)
      have HV := Lib.hid (show Mv W0 (wr.setCell ⟨A.tb, j, none⟩ (.bool true)) A.blks from hmv.setCell (by simp) _)
      have HJ := Lib.hid (show a + 16 = 16 * (j + 1) ∧ x ≤ j + 1 ∧ j + 1 ≤ y by omega)
      have HL := Lib.hid (show Y - (a + 16) < gk by omega)
      clear ha hxj hjy hA hmv h1 h2 h3 h4 h5 hRr aj hlt hk hh
      go_wp2_with (fail)
      refine CS.out.mono ?_
      rintro e w2 ⟨rfl, rfl⟩
      go_wp2_with (fail)
      go_roundg (Y - (a + 16))
      case measure => exact HL.out
      case rel => exact ⟨j + 1, a + 16, by first | rfl | rw [e2], rfl, Lib.hid ⟨HJ.out.1, HJ.out.2.1, HJ.out.2.2, HA.out, HV.out⟩⟩
    · obtain rfl : j = y := by omega
      obtain ⟨o3, o8⟩ := HO.out
      have a1 : ¬ (a : Int) < (Y : Int) := by omega
      have k0 := hA.cF o o3 (by omega)
      have k1 := hA.cF (o + 1) (by omega) (by omega)
      have f0 := hA.fA o
      have f1 := hA.fA (o + 1)
      dsimp only at k0 k1 f0 f1
      have HA := Lib.hid (show AR ((wr.setCell ⟨A.b, o, none⟩ (.int .i64 (X : Int))).setCell ⟨A.b, o + 1, none⟩ (.int .i64 (Y : Int))) { A with T := tk A.T x j, F := upd (upd A.F o (X : Int)) (o + 1) (Y : Int) } from (hA.setF o o3 _).setF (o + 1) (by omega) _)
      have HV := Lib.hid (show Mv w ((wr.setCell ⟨A.b, o, none⟩ (.int .i64 (X : Int))).setCell ⟨A.b, o + 1, none⟩ (.int .i64 (Y : Int))) A.blks from HM.out.trans ((hmv.setCell (by simp) _).setCell (by simp) _))
      clear ha hxj hjy hA hmv h1 h2 h3 h4 h5 hRr hlt hk hh o3 o8
      go_wp2_with (fail)
      go_end0
      exact ⟨rfl, HA.out, HV.out⟩
end LM
end Go.Proofs.Ytghnaiinhbdgcaa
