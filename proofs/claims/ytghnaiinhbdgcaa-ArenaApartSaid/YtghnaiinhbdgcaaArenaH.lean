/- Walks of package arena: takeHole. -/
import Derived.Test.YtghnaiinhbdgcaaArenaFc
namespace Go.Proofs.Ytghnaiinhbdgcaa
open Go Go.RowKit
namespace LM
set_option linter.unusedVariables false

/-- what takeHole answers -/
def RH (A : Ar) (o : Nat) (w : World) (R : Option (Nat × Nat)) (e : Ending) (w' : World) : Prop :=
  match R with
  | none => e = .returned (.bool false) ∧ AR w' A ∧ Mv w w' A.blks
  | some (x', y') => e = .returned (.bool true) ∧ AR w' (A.tak o x' y') ∧ Mv w w' A.blks
theorem findH_step (T : Nat → Bool) {N n x : Nat} (h : x < N) : findH T N n N x = if n ≤ 16 * (hend T x - x) then some (x, hend T x) else findH T N n N (max (hend T x) (x + 1)) := by
  obtain ⟨m, rfl⟩ : ∃ m, N = m + 1 := ⟨N - 1, by omega⟩
  have h1 : ∀ z, x < z → findH T (m + 1) n (m + 1) z = findH T (m + 1) n m z := fun z hz => findH_fuel T _ _ _ _ _ (by omega) (by omega)
  rw [h1 (max (hend T x) (x + 1)) (by omega), findH, if_pos h]
theorem hole_bounds {T : Nat → Bool} {nb j c y Y : Nat} (hn2 : nb ≤ 4096) (hc : c = 16 * j) (hlt : j < 16 * nb) (hy : hend T j = y) (hY : 16 * y = Y) :
    j ≤ y ∧ y ≤ 16 * nb ∧ (0 : Int) ≤ (c : Int) ∧ (c : Int) ≤ 1048576 ∧ (0 : Int) ≤ (Y : Int) ∧ (Y : Int) ≤ 1048576 ∧ c ≤ 4294967280 := by
  have h1 := hend_ge T j
  have h2 := hend_bound T hlt
  rw [hy] at h1 h2
  refine ⟨h1, h2, ?_, ?_, ?_, ?_, ?_⟩ <;> omega
theorem hole_next {nb N c j y Y : Nat} (hN : nb * 256 = N) (hc : c = 16 * j) (hY : 16 * y = Y) (h1 : j ≤ y) (h2 : y ≤ 16 * nb) (hlt : j < 16 * nb) :
    (max Y (c + 16)) = 16 * (max y (j + 1)) ∧ max y (j + 1) ≤ 16 * nb ∧ N - max Y (c + 16) < N - c ∧ (c : Int) < (N : Int) := by omega

set_option maxRecDepth 100000 in
set_option maxHeartbeats 4000000 in
theorem atakeH (A : Ar) (o x n : Nat) (a : Nat) (w : World) (h : AR w A) (o3 : 3 ≤ o) (o8 : o ≤ 8) (hn : 1 ≤ n) (hn2 : n ≤ 256) (ha : a = 16 * x) (hx : x ≤ 16 * A.nb) :
    Calls Try.prog 21 #[.pointer (some ⟨A.b, 0, none⟩), .pointer (some ⟨A.b, o, none⟩), .int .i64 (a : Int), .int .i64 (n : Int)] w fun e w' => RH A o w (findH A.T (16 * A.nb) n (16 * A.nb) x) e w' := by
  have HH := Lib.hid h
  have HO := Lib.hid (And.intro o3 o8)
  have HN := Lib.hid (And.intro hn (And.intro hn2 (And.intro h.n1 h.n2)))
  have HX := Lib.hid (And.intro ha hx)
  obtain ⟨N, hN⟩ : ∃ N, A.nb * 256 = N := ⟨_, rfl⟩
  have HNN := Lib.hid hN
  obtain ⟨R, hR⟩ : ∃ R, findH A.T (16 * A.nb) n (16 * A.nb) x = R := ⟨_, rfl⟩
  rw [hR]
  have HR := Lib.hid hR
  clear h o3 o8 hn hn2 ha hx hN hR
  go_enter Try.func21, Try.ntmps21
  go_wp2_with (fail)
  go_loopg [9] (N - a) (fun kk av wr => ∃ j c : Nat, av = .int .i64 (c : Int) ∧ kk = N - c ∧ Hid (c = 16 * j ∧ j ≤ 16 * A.nb ∧ AR wr A ∧ Mv w wr [] ∧ findH A.T (16 * A.nb) n (16 * A.nb) j = R))
  case atStart => exact ⟨x, a, rfl, rfl, Lib.hid ⟨HX.out.1, HX.out.2, HH.out, Mv.refl _ _, HR.out⟩⟩
  case round =>
    obtain ⟨j, c, rfl, hk, hh⟩ := hrel
    obtain ⟨hc, hj, hA, hmv, hF⟩ := hh.out
    obtain ⟨n1, n2, n3, n4⟩ := HN.out
    have hNN := HNN.out
    have c0 := hA.c0
    rw [hNN] at c0
    by_cases hlt : j < 16 * A.nb
    · obtain ⟨y, hy⟩ : ∃ y, hend A.T j = y := ⟨_, rfl⟩
      obtain ⟨Y, hY⟩ : ∃ Y, 16 * y = Y := ⟨_, rfl⟩
      obtain ⟨hge, hle, q1, q2, q3, q4, q5⟩ := hole_bounds n4 hc hlt hy hY
      obtain ⟨p1, p2, p3, a1⟩ := hole_next hNN hc hY hge hle hlt
      have U := Lib.hid (auntaken A j c wr hA hc hlt)
      rw [hy, hY] at U
      have hF2 := findH_step A.T (n := n) hlt
      rw [hF, hy] at hF2
      have LE := Lib.hid fun W => aleft (c : Int) (Y : Int) W q1 q2 q3 q4
      have HA := Lib.hid (And.intro hA hmv)
      by_cases hfit : n ≤ 16 * (y - j)
      · rw [if_pos hfit] at hF2
        subst hF2
        have d1 : decide ((n : Int) ≤ (Y : Int) - (c : Int)) = true := decide_eq_true (by clear p1 p2 p3 q1 q2 q3 q4 q5 n4; omega)
        have HCY := Lib.hid (show (c : Int) = ((16 * j : Nat) : Int) ∧ (Y : Int) = ((16 * y : Nat) : Int) from ⟨by rw [hc], by rw [hY]⟩)
        have TK := Lib.hid fun W (hW : AR W A) => atake A o j y c Y W hW HO.out.1 HO.out.2 hge hle hc hY.symm
        clear hF hA hmv hc hj n1 n2 n3 n4 hNN hlt hy hY hge hle hk hh hfit p1 p2 p3 q1 q2 q3 q4 q5
        go_wp2_with (fail)
        refine U.out.mono ?_
        rintro e w2 ⟨rfl, m2⟩
        go_upto_region 4 with (fail)
        obtain ⟨W3, hW3⟩ : ∃ W3, w2.alloc (.cells #[.int .i64 (c : Int), .int .i64 (Y : Int)] 44) = W3 := ⟨_, rfl⟩
        rw [hW3]
        have r3 : RowF W3 w2.heap.size 2 (fun i => if i = 0 then .int .i64 (c : Int) else .int .i64 (Y : Int)) := by
          rw [← hW3]
          refine RowF.new w2 _ _ rfl fun i hi => ?_
          match i, hi with
          | 0, _ => rfl
          | 1, _ => rfl
        have m3 : Mv wr W3 [] := by rw [← hW3]; exact m2.alloc _
        have R3 := Lib.hid r3
        have M3 := Lib.hid m3
        have k0 := r3.cell (i := 0) (by decide)
        have k1 := r3.cell (i := 1) (by decide)
        rw [if_pos rfl] at k0
        rw [if_neg (by decide)] at k1
        clear hW3 r3 m3 m2
        go_wp2_with (fail)
        refine (LE.out _).mono ?_
        rintro e w4 ⟨rfl, m4⟩
        have r4 := R3.out.mv m4 (by simp)
        have k0 := r4.cell (i := 0) (by decide)
        have k1 := r4.cell (i := 1) (by decide)
        rw [if_pos rfl] at k0
        rw [if_neg (by decide)] at k1
        have A4 := Lib.hid ((HA.out.1.mv M3.out (by simp)).mv m4 (by simp))
        have M4 := Lib.hid (((HA.out.2.trans M3.out).trans m4).mono (L' := A.blks) (by simp))
        clear r4 m4
        go_wp2_with (fail)
        refine (TK.out _ A4.out).mono ?_
        rintro e w5 ⟨rfl, hA5, hm5⟩
        have FF := Lib.hid (show RH A o w (some (j, y)) (.returned (.bool true)) w5 from ⟨rfl, by have h9 := hA5; rw [HCY.out.1, HCY.out.2] at h9; exact h9, M4.out.trans hm5⟩)
        clear hA5 hm5
        go_wp2_with (fail)
        go_ret
        exact FF.out
      · rw [if_neg hfit] at hF2
        have d1 : decide ((n : Int) ≤ (Y : Int) - (c : Int)) = false := decide_eq_false (by clear p1 p2 p3 q1 q2 q3 q4 q5 n4; omega)
        obtain ⟨Z, hZ⟩ : ∃ Z, max Y (c + 16) = Z := ⟨_, rfl⟩
        have e2 := wrap16 q5
        rw [hZ] at p1 p3
        have HP := Lib.hid (And.intro p1 (And.intro p2 hF2))
        have HL := Lib.hid (show N - Z < gk from hk ▸ p3)
        obtain ⟨c', hc'⟩ : ∃ c', c + 16 = c' := ⟨_, rfl⟩
        rw [hc'] at e2
        have HZ := Lib.hid (show max Y c' = Z by rw [← hc']; exact hZ)
        clear hF hF2 hA hmv hc hj n1 n2 n3 n4 hNN hlt hy hY hge hle hk hh hfit p1 p2 p3 q1 q2 q3 q4 q5 hZ hc'
        go_wp2_with (fail)
        refine U.out.mono ?_
        rintro e w2 ⟨rfl, m2⟩
        go_upto_region 4 with (fail)
        obtain ⟨W3, hW3⟩ : ∃ W3, w2.alloc (.cells #[.int .i64 (c : Int), .int .i64 (Y : Int)] 44) = W3 := ⟨_, rfl⟩
        rw [hW3]
        have r3 : RowF W3 w2.heap.size 2 (fun i => if i = 0 then .int .i64 (c : Int) else .int .i64 (Y : Int)) := by
          rw [← hW3]
          refine RowF.new w2 _ _ rfl fun i hi => ?_
          match i, hi with
          | 0, _ => rfl
          | 1, _ => rfl
        have m3 : Mv wr W3 [] := by rw [← hW3]; exact m2.alloc _
        have R3 := Lib.hid r3
        have M3 := Lib.hid m3
        have k0 := r3.cell (i := 0) (by decide)
        have k1 := r3.cell (i := 1) (by decide)
        rw [if_pos rfl] at k0
        rw [if_neg (by decide)] at k1
        clear hW3 r3 m3 m2
        go_wp2_with (fail)
        refine (LE.out _).mono ?_
        rintro e w4 ⟨rfl, m4⟩
        have r4 := R3.out.mv m4 (by simp)
        have k0 := r4.cell (i := 0) (by decide)
        have k1 := r4.cell (i := 1) (by decide)
        rw [if_pos rfl] at k0
        rw [if_neg (by decide)] at k1
        have A4 := Lib.hid ((HA.out.1.mv M3.out (by simp)).mv m4 (by simp))
        have M4 := Lib.hid ((HA.out.2.trans M3.out).trans m4)
        clear r4 m4
        go_wp2_with (fail)
        all_goals
          go_roundg (N - Z)
          case measure => exact HL.out
          case rel => exact ⟨max y (j + 1), Z, by first | rfl | (have h9 := HZ.out; clear d1; congr 1; omega), rfl, Lib.hid ⟨HP.out.1, HP.out.2.1, A4.out, M4.out, HP.out.2.2.symm⟩⟩
    · have HL := Lib.hid (show R = none by rw [← hF]; exact findH_out _ (by omega))
      have a1 : ¬ (c : Int) < (N : Int) := by omega
      have FF := Lib.hid (show RH A o w R (.returned (.bool false)) wr by rw [HL.out]; exact ⟨rfl, hA, hmv.mono (by simp)⟩)
      clear hF hA hmv hc hj n1 n2 n3 n4 hNN hlt hk hh
      go_wp2_with (fail)
      go_ret
      exact FF.out
end LM
end Go.Proofs.Ytghnaiinhbdgcaa
