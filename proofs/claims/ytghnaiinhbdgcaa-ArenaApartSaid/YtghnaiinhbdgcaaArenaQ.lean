/- Walks of package arena: the law ArenaFills. -/
import Derived.Test.YtghnaiinhbdgcaaArenaL
import Derived.Test.YtghnaiinhbdgcaaArenaP
import Derived.Test.YtghnaiinhbdgcaaArenaO
namespace Go.Proofs.Ytghnaiinhbdgcaa
open Go Go.RowKit
namespace LM
set_option linter.unusedVariables false

theorem acts_cells {w w' : World} {B : Nat} {S : Option Addr} {xs : List Act4} (h : ActsAt w S xs) (hb : Below B w w') (hB : w.heap.size ≤ B) (j : Nat) {x : Act4} (hx : xs[j]? = some x) :
    ∃ b off, S = some ⟨b, off, none⟩ ∧ w'.cell? ⟨b, off + j * 4, none⟩ = some (.int .i64 x.k) ∧ w'.cell? ⟨b, off + j * 4 + 1, none⟩ = some (.int .i64 x.n) ∧ w'.cell? ⟨b, off + j * 4 + 2, none⟩ = some (.int .i64 x.a) ∧ w'.cell? ⟨b, off + j * 4 + 3, none⟩ = some (.int .u64 x.v) := by
  obtain ⟨b, off, h1, h2⟩ := h
  obtain ⟨hb0, c0, c1, c2, c3⟩ := h2 j x hx
  have hlt : b < B := Nat.lt_of_lt_of_le hb0 hB
  exact ⟨b, off, h1 (by have := (List.getElem?_eq_some_iff.1 hx).1; omega), (hb.cell (p := ⟨b, _, none⟩) hlt).trans c0, (hb.cell (p := ⟨b, _, none⟩) hlt).trans c1, (hb.cell (p := ⟨b, _, none⟩) hlt).trans c2, (hb.cell (p := ⟨b, _, none⟩) hlt).trans c3⟩
theorem act_block {wr W : World} {k n a v : Int} (h : wr.alloc (.cells #[.int .i64 k, .int .i64 n, .int .i64 a, .int .u64 v] 35) = W) :
    W.cell? ⟨wr.heap.size, 0, none⟩ = some (.int .i64 k) ∧ W.cell? ⟨wr.heap.size, 1, none⟩ = some (.int .i64 n) ∧ W.cell? ⟨wr.heap.size, 2, none⟩ = some (.int .i64 a) ∧ Mv wr W [] := by
  subst h
  have hb := heap_alloc_new wr (.cells #[.int .i64 k, .int .i64 n, .int .i64 a, .int .u64 v] 35)
  exact ⟨cell_of_row _ _ 0 _ _ _ hb, cell_of_row _ _ 1 _ _ _ hb, cell_of_row _ _ 2 _ _ _ hb, (Mv.refl _ _).alloc _⟩
/-- an arena of this call's -/
structure Mine (B : Nat) (nb b wb tb mb : Nat) (A : Ar) : Prop where
  nb : A.nb = nb
  b : A.b = b
  wb : A.wb = wb
  tb : A.tb = tb
  mb : A.mb = mb
  lo : ∀ k ∈ A.blks, B ≤ k

set_option maxRecDepth 100000 in
set_option maxHeartbeats 8000000 in
theorem afills_no (a0 : Int) (S : Option Addr) (xs : List Act4) (cap : Nat) (w : World) (h : a0 < 1 ∨ 8 < a0 ∨ 60 < xs.length) :
    Calls Try.prog 5 #[.int .i64 a0, .slice S xs.length cap] w fun e w' => e = .returned (.bool true) ∧ Below w.heap.size w w' := by
  obtain ⟨N, hN⟩ : ∃ N, xs.length = N := ⟨_, rfl⟩
  rw [hN] at h ⊢
  clear hN
  have HM := Lib.hid fun w' (hm : Mv w w' []) => hm.below (B := w.heap.size) (Nat.le_refl _) (fun _ hk => by cases hk)
  have AL := Lib.hid (aalive w)
  by_cases h1 : a0 < 1
  · have d1 : decide (a0 < 1) = true := decide_eq_true h1
    clear h h1
    go_enter Try.func5, Try.ntmps5
    go_wp2_with (fail)
    refine AL.out.mono ?_
    rintro e w1 ⟨rfl, m1⟩
    have M1 := Lib.hid (HM.out _ m1)
    clear m1
    go_wp2_with (fail)
    go_ret
    exact ⟨rfl, M1.out⟩
  · have d1 : decide (a0 < 1) = false := decide_eq_false h1
    by_cases h2 : 8 < a0
    · have d2 : decide (8 < a0) = true := decide_eq_true h2
      clear h h1 h2
      go_enter Try.func5, Try.ntmps5
      go_wp2_with (fail)
      refine AL.out.mono ?_
      rintro e w1 ⟨rfl, m1⟩
      have M1 := Lib.hid (HM.out _ m1)
      clear m1
      go_wp2_with (fail)
      go_ret
      exact ⟨rfl, M1.out⟩
    · have d2 : decide (8 < a0) = false := decide_eq_false h2
      have d3 : decide (60 < N) = true := decide_eq_true (by omega)
      have d4 : decide ((60 : Int) < (N : Int)) = true := decide_eq_true (by omega)
      clear h h1 h2
      go_enter Try.func5, Try.ntmps5
      go_wp2_with (fail)
      refine AL.out.mono ?_
      rintro e w1 ⟨rfl, m1⟩
      have M1 := Lib.hid (HM.out _ m1)
      clear m1
      go_wp2_with (fail)
      go_ret
      exact ⟨rfl, M1.out⟩

theorem tmod16 (t : Nat) : Int.tmod ((16 * t : Nat) : Int) 16 = 0 := by
  rw [Int.tmod_eq_emod_of_nonneg (by omega)]
  omega
set_option maxRecDepth 100000 in
set_option maxHeartbeats 8000000 in
theorem afills_yes (nb : Nat) (S : Option Addr) (xs : List Act4) (cap : Nat) (w : World) (h1 : 1 ≤ nb) (h8 : nb ≤ 8) (h60 : xs.length ≤ 60) (hx : ∀ x ∈ xs, ActR x) (hS : ActsAt w S xs) (hc : xs.length ≤ cap ∧ cap ≤ 9223372036854775807) :
    Calls Try.prog 5 #[.int .i64 (nb : Int), .slice S xs.length cap] w fun e w' => e = .returned (.bool true) ∧ Below w.heap.size w w' := by
  obtain ⟨N, hN⟩ : ∃ N, xs.length = N := ⟨_, rfl⟩
  rw [hN] at h60 hc ⊢
  have HM := Lib.hid fun w' (hm : Mv w w' []) => hm.below (B := w.heap.size) (Nat.le_refl _) (fun _ hk => by cases hk)
  have AL := Lib.hid (aalive w)
  have d1 : decide ((nb : Int) < 1) = false := decide_eq_false (by omega)
  have d2 : decide ((8 : Int) < (nb : Int)) = false := decide_eq_false (by omega)
  have d2' : decide (8 < nb) = false := decide_eq_false (by omega)
  have d3 : decide (60 < N) = false := decide_eq_false (by omega)
  have d4 : decide ((60 : Int) < (N : Int)) = false := decide_eq_false (by omega)
  have NW := Lib.hid fun W => anew nb W h1 (Nat.le_trans h8 (by decide))
  have HS := Lib.hid (And.intro hS (And.intro hx hN))
  have HN := Lib.hid (And.intro h1 (And.intro h8 h60))
  have HC := Lib.hid hc
  clear h1 h8 h60 hx hS hc hN
  go_enter Try.func5, Try.ntmps5
  go_wp2_with (fail)
  refine AL.out.mono ?_
  rintro e w1 ⟨rfl, m1⟩
  have M1 := Lib.hid m1
  clear m1
  go_wp2_with (fail)
  refine (NW.out _).mono ?_
  rintro e w2 ⟨b, wb, tb, mb, rfl, hA, hm, hk⟩
  have A2 := Lib.hid hA
  have K2 := Lib.hid (show Below w.heap.size w w2 ∧ (∀ k ∈ (Ar.new nb b wb tb mb).blks, w.heap.size ≤ k) from ⟨HM.out _ (M1.out.trans hm), fun k hkk => Nat.le_trans M1.out.size (hk k hkk)⟩)
  clear hA hm hk d1 d2 d2' d3 d4
  go_upto_region 7 with (fail)
  go_loopg [32] N (fun kk jv wr => ∃ j : Nat, jv = .int .i64 (j : Int) ∧ kk = N - j ∧ j ≤ N ∧ Hid (Below w.heap.size w wr ∧ ∃ M, AR wr { Ar.new nb b wb tb mb with M := M }))
  case atStart => exact ⟨0, rfl, rfl, Nat.zero_le _, Lib.hid ⟨K2.out.1, _, A2.out⟩⟩
  case round =>
    obtain ⟨j, rfl, hk, hj, hh⟩ := hrel
    obtain ⟨hb, M, hA⟩ := hh.out
    obtain ⟨hS, hx, hN⟩ := HS.out
    by_cases hlt : j < N
    · obtain ⟨x, hxj⟩ : ∃ x, xs[j]? = some x := ⟨_, List.getElem?_eq_getElem (by omega)⟩
      obtain ⟨bb, off, rfl, c0, c1, c2, c3⟩ := acts_cells hS hb (Nat.le_refl _) j hxj
      have hxr := hx x (List.mem_of_getElem? hxj)
      obtain ⟨W3, hW3⟩ : ∃ W3, wr.alloc (.cells #[.int .i64 x.k, .int .i64 x.n, .int .i64 x.a, .int .u64 x.v] 35) = W3 := ⟨_, rfl⟩
      obtain ⟨k0, k1, k2, m3⟩ := act_block hW3
      have HW3 := Lib.hid hW3
      have MK := Lib.hid (amark _ x.a x.n W3 (hA.mv m3 (by simp)) hxr.2.2 hxr.2.1.2)
      have a1 : (j : Int) < (N : Int) := by omega
      have a2 : (N : Int) ≤ (cap : Int) := by have := HC.out.1; omega
      have a3 : (cap : Int) ≤ 9223372036854775807 := by have := HC.out.2; omega
      have e1 := wrap1 (n := j) (by have := HN.out.2.2; omega)
      have HB := Lib.hid (hb.trans (m3.below hb.size (fun _ hk => by cases hk)))
      have HL := Lib.hid (show N - (j + 1) < gk by omega)
      have HI := Lib.hid hlt
      clear hh hb hA hS hx hN hxj hxr hW3 m3 hk hj hlt
      go_upto_region 9 with (fail)
      rw [HW3.out]
      clear c0 c1 c2 c3
      go_wp2_with (fail)
      refine MK.out.mono ?_
      rintro e w4 ⟨rfl, hA4, hm4⟩
      have RR := Lib.hid (show Below w.heap.size w w4 ∧ ∃ M, AR w4 { Ar.new nb b wb tb mb with M := M } from ⟨HB.out.trans (hm4.below HB.out.size K2.out.2), _, hA4⟩)
      clear hA4 hm4 k0 k1 k2 a1 a2 a3
      go_wp2_with (fail)
      go_roundg (N - (j + 1))
      case measure => exact HL.out
      case rel => exact ⟨j + 1, by first | rfl | rw [e1], rfl, HI.out, RR⟩
    · obtain rfl : j = N := by omega
      have a1 : ¬ (j : Int) < (j : Int) := by omega
      have SW := Lib.hid (asweep _ wr hA)
      have HB := Lib.hid hb
      clear hh hb hA hS hx hN hk hj hlt
      go_wp2_with (fail)
      refine SW.out.mono ?_
      rintro e w5 ⟨rfl, hA5, hm5⟩
      have A5 := Lib.hid hA5
      have B5 := Lib.hid (show Below w.heap.size w w5 from HB.out.trans (hm5.below HB.out.size K2.out.2))
      clear hA5 hm5 a1
      go_upto_region 14 with (fail)
      have hcM : cntB M 0 (nb * 16) ≤ nb * 16 := cntB_le _ _ _
      obtain ⟨F, hF⟩ : ∃ F, cntB M 0 (nb * 16) = F := ⟨_, rfl⟩
      rw [hF] at hcM
      have HF := Lib.hid (And.intro hF (show F ≤ 128 by have := HN.out.2.1; omega))
      clear hcM hF
      go_loopg [8, 9] nb (fun kk fv bv wr => ∃ f k : Nat, fv = .int .i64 (f : Int) ∧ bv = .int .i64 (k : Int) ∧ kk = nb - k ∧ k ≤ nb ∧ Hid (f = cntB M 0 (k * 16) ∧ w5 = wr))
      case atStart => exact ⟨0, 0, rfl, rfl, rfl, Nat.zero_le _, Lib.hid ⟨rfl, rfl⟩⟩
      case round =>
        obtain ⟨f, k, rfl, rfl, hk, hj, hh⟩ := hrel
        obtain ⟨hf, rfl⟩ := hh.out
        by_cases hlt : k < nb
        · have FR := Lib.hid (afree _ k w5 A5.out hlt)
          dsimp only at FR
          have hle := cntB_le M (k * 16) 16
          have hle2 := cntB_le M 0 (k * 16)
          have hadd := cntB_add M 0 (k * 16) 16
          rw [Nat.zero_add, show k * 16 + 16 = (k + 1) * 16 by omega] at hadd
          obtain ⟨c, hc⟩ : ∃ c, cntB M (k * 16) 16 = c := ⟨_, rfl⟩
          rw [hc] at FR hle hadd
          have h8 := HN.out.2.1
          have a1 : (k : Int) < (nb : Int) := by omega
          have e1 := wrap1 (n := k) (by omega)
          have e2 : RowKit.wrap64 ((f : Int) + (c : Int)) = ((f + c : Nat) : Int) := wrapn (n := f + c) (by omega)
          have HJ := Lib.hid (show f + c = cntB M 0 ((k + 1) * 16) ∧ k + 1 ≤ nb ∧ nb - (k + 1) < gk by omega)
          clear hf hh hle hle2 hadd hc h8 hk hj hlt
          go_wp2_with (fail)
          refine FR.out.mono ?_
          rintro e w6 ⟨rfl, rfl⟩
          go_wp2_with (fail)
          go_roundg (nb - (k + 1))
          case measure => exact HJ.out.2.2
          case rel => exact ⟨f + c, k + 1, by first | rfl | rw [e2], by first | rfl | rw [e1], rfl, HJ.out.2.1, Lib.hid ⟨HJ.out.1, rfl⟩⟩
        · obtain rfl : k = nb := by omega
          rw [HF.out.1] at hf
          subst hf
          have a1 : ¬ (k : Int) < (k : Int) := by omega
          have FS := Lib.hid (show Fill (Ar.swept { Ar.new k b wb tb mb with M := M }) 0 f by
            have h9 := fill_start (A := { Ar.new k b wb tb mb with M := M }) (Nat.le_trans HN.out.2.1 (by decide))
            have e : cntB M 0 (16 * k) = f := by rw [Nat.mul_comm]; exact HF.out.1
            dsimp only at h9
            rw [e] at h9
            exact h9)
          clear hh hk hj hlt
          go_upto_region 18 with (fail)
          clear a1
          go_loopg [10] f (fun kk kv wr => ∃ i : Nat, kv = .int .i64 (i : Int) ∧ kk = f - i ∧ i ≤ f ∧ Hid (Below w.heap.size w wr ∧ ∃ A nx, AR wr A ∧ Fill A nx (f - i) ∧ A.b = b ∧ ∀ q ∈ A.blks, w.heap.size ≤ q))
          case atStart => exact ⟨0, rfl, rfl, Nat.zero_le _, Lib.hid ⟨B5.out, _, _, A5.out, FS.out, rfl, K2.out.2⟩⟩
          case round =>
            obtain ⟨i, rfl, hk, hj, hh⟩ := hrel
            obtain ⟨hb, A, nx, hA, hfi, hAb, hq⟩ := hh.out
            by_cases hlt : i < f
            · rw [show f - i = (f - (i + 1)) + 1 by omega] at hfi
              obtain ⟨⟨t, ht⟩, hfn⟩ := fill_step hfi
              have AW := aallocS A nx 16 wr hA hfi.wf (by decide) (by decide)
              rw [ht, hAb] at AW
              obtain ⟨X, hX⟩ : ∃ X : Int, ((16 * t : Nat) : Int) = X := ⟨_, rfl⟩
              have tm : Int.tmod X 16 = 0 := by rw [← hX]; exact tmod16 t
              dsimp only at AW
              rw [hX] at AW
              have HAW := Lib.hid AW
              have a1 : (i : Int) < (f : Int) := by omega
              have e1 := wrap1 (n := i) (by have := HF.out.2; omega)
              have HB := Lib.hid hb
              have HQ := Lib.hid (And.intro hq hAb)
              have HFN := Lib.hid hfn
              have HWF := Lib.hid (alcS_wf (n := 16) hfi.wf (by decide)).2
              have HI := Lib.hid (show i + 1 ≤ f ∧ f - (i + 1) < gk by omega)
              clear hb hA hfi hAb hq hfn AW ht hX hh hk hj hlt
              go_wp2_with (fail)
              refine HAW.out.mono ?_
              rintro e w6 ⟨rfl, hA6, hm6⟩
              have RR := Lib.hid (show Below w.heap.size w w6 ∧ ∃ A nx, AR w6 A ∧ Fill A nx (f - (i + 1)) ∧ A.b = b ∧ ∀ q ∈ A.blks, w.heap.size ≤ q from
                ⟨HB.out.trans (hm6.below HB.out.size HQ.out.1), _, _, hA6, HFN.out, by
                  have h9 := HWF.out.2
                  injection h9 with h9 _
                  exact h9.trans HQ.out.2, by rw [HWF.out.2]; exact HQ.out.1⟩)
              clear hA6 hm6
              go_wp2_with (fail)
              go_roundg (f - (i + 1))
              case measure => exact HI.out.2
              case rel => exact ⟨i + 1, by first | rfl | rw [e1], rfl, HI.out.1, RR⟩
            · obtain rfl : i = f := by omega
              rw [Nat.sub_self] at hfi
              obtain ⟨h1, h2⟩ := fill_end hfi
              have AW := aallocS A nx 1 wr hA hfi.wf (by decide) (by decide)
              rw [h1, hAb] at AW
              have HAW := Lib.hid AW
              have a1 : ¬ (i : Int) < (i : Int) := by omega
              have HB := Lib.hid hb
              have HQ := Lib.hid (And.intro hq hAb)
              have HE := Lib.hid h2
              clear hb hA hfi hAb hq AW h1 h2 hh hk hj hlt
              go_wp2_with (fail)
              refine HAW.out.mono ?_
              rintro e w6 ⟨rfl, hA6, hm6⟩
              have EM := aempty A w6 hA6
              rw [HE.out, HQ.out.2] at EM
              have HEM := Lib.hid EM
              have B6 := Lib.hid (HB.out.trans (hm6.below HB.out.size HQ.out.1))
              clear hA6 hm6 EM
              go_wp2_with (fail)
              refine HEM.out.mono ?_
              rintro e w7 ⟨rfl, hm7⟩
              have B7 := Lib.hid (B6.out.trans (hm7.below B6.out.size (fun _ hk => by cases hk)))
              clear hm7
              go_wp2_with (fail)
              go_ret
              exact ⟨rfl, B7.out⟩
theorem afills (a0 : Int) (S : Option Addr) (xs : List Act4) (cap : Nat) (w : World) (hx : ∀ x ∈ xs, ActR x) (hS : ActsAt w S xs) (hc : xs.length ≤ cap ∧ cap ≤ 9223372036854775807) :
    Calls Try.prog 5 #[.int .i64 a0, .slice S xs.length cap] w fun e w' => e = .returned (.bool true) ∧ Below w.heap.size w w' := by
  by_cases h : a0 < 1 ∨ 8 < a0 ∨ 60 < xs.length
  · exact afills_no a0 S xs cap w h
  · obtain ⟨nb, rfl⟩ := Int.eq_ofNat_of_zero_le (by omega : 0 ≤ a0)
    exact afills_yes nb S xs cap w (by omega) (by omega) (by omega) hx hS hc
end LM
end Go.Proofs.Ytghnaiinhbdgcaa
