/- Walks of package arena: Mark. Written by genJ.py. -/
import Derived.Test.YtghnaiinhbdgcaaArenaC
import Derived.Deep.Cut
namespace Go.Proofs.Ytghnaiinhbdgcaa
open Go Go.RowKit
namespace LM
set_option linter.unusedVariables false

/-- lines marked -/
def mkM (M : Nat → Bool) (x n : Int) : Nat → Bool := fun l => M l || (decide (1 ≤ n) && (decide (x < 16 * (l : Int) + 16) && decide (16 * (l : Int) < x + n)))
theorem mkM_no (M : Nat → Bool) {x n : Int} (h : n < 1) : mkM M x n = M := by
  funext l
  unfold mkM
  rw [decide_eq_false (by omega : ¬ 1 ≤ n)]
  simp
theorem mk_next {b c : Nat} {E : Int} {N nb : Nat} (h : b / 16 = c) (hb : (b : Int) < E) (hE : E ≤ (N : Int)) (hN : nb * 256 = N) (hn : nb ≤ 4096) :
    b < 256 * nb ∧ b % 16 + 16 * c = b ∧ (16 * c + 16) / 16 = c + 1 ∧ 16 * ((c + 1 : Nat) : Int) - 16 < E ∧ (E - ((16 * c + 16 : Nat) : Int)).toNat < (E - (b : Int)).toNat ∧ 16 * c ≤ 4294967280 ∧ c < 16 * nb := by omega
theorem sub_of {b s d : Nat} (h : s + d = b) : (b : Int) - (s : Int) = (d : Int) := by omega
theorem mk_fin {M : Nat → Bool} {x n E : Int} {lo c b a0 l : Nat} (hn : 1 ≤ n) (hlo : lo ≤ l ↔ x < 16 * (l : Int) + 16) (hE : 16 * (l : Int) < E ↔ 16 * (l : Int) < x + n) (hs : (a0 : Int) < E ∨ E ≤ 16 * (lo : Int)) (hb : ¬ (b : Int) < E)
    (hd : (c = lo ∧ b = a0) ∨ (b = 16 * c ∧ 16 * (c : Int) - 16 < E)) : tk M lo c l = mkM M x n l := by
  unfold tk mkM
  rw [decide_eq_true hn, Bool.true_and]
  congr 1
  rw [Bool.eq_iff_iff]
  simp only [Bool.and_eq_true, decide_eq_true_eq]
  rw [← hlo, ← hE]
  omega

set_option maxRecDepth 100000 in
set_option maxHeartbeats 4000000 in
theorem amark3 (A : Ar) (a : Nat) (n : Int) (w : World) (h : AR w A) (hx : a < 256 * A.nb) (hn : 1 ≤ n ∧ n ≤ 9223372036854775807) :
    Calls Try.prog 14 #[.pointer (some ⟨A.b, 0, none⟩), .int .i64 (a : Int), .int .i64 n] w fun e w' => e = .returned (.tuple #[]) ∧ AR w' { A with M := mkM A.M (a : Int) n } ∧ Mv w w' A.blks := by
  have c0 := h.c0
  have hn2 := h.n2
  obtain ⟨N, hN⟩ : ∃ N, A.nb * 256 = N := ⟨_, rfl⟩
  rw [hN] at c0
  have a1 : decide (n < 1) = false := decide_eq_false (by omega)
  have a2 : decide (N ≤ a) = false := decide_eq_false (by omega)
  have a2' : decide ((N : Int) ≤ (a : Int)) = false := decide_eq_false (by omega)
  have a3 : decide ((a : Int) < 0) = false := decide_eq_false (by omega)
  have e1 : RowKit.wrap64 ((N : Int) - (a : Int)) = (N : Int) - (a : Int) := wrapi ⟨by omega, by omega⟩
  have HN := Lib.hid hN
  have HH := Lib.hid h
  obtain ⟨lo, hlo⟩ : ∃ lo, a / 16 = lo := ⟨_, rfl⟩
  by_cases hm : (N : Int) - (a : Int) < n
  · obtain ⟨E, hE⟩ : ∃ E, E = (N : Int) := ⟨_, rfl⟩
    have e2 : RowKit.wrap64 ((a : Int) + ((N : Int) - (a : Int))) = E := by rw [hE, show (a : Int) + ((N : Int) - (a : Int)) = (N : Int) by omega]; exact wrapn (by omega)
    have SP := Lib.hid (show (a / 16 = lo ∧ E ≤ (N : Int) ∧ A.nb ≤ 4096 ∧ 1 ≤ n ∧ (((a : Nat) : Int) < E ∨ E ≤ 16 * ((lo : Nat) : Int)) ∧ ∀ l, l < 16 * A.nb → ((lo ≤ l ↔ (a : Int) < 16 * (l : Int) + 16) ∧ (16 * (l : Int) < E ↔ 16 * (l : Int) < (a : Int) + n))) from ⟨hlo, by omega, hn2, hn.1, .inl (by omega), fun l hl => by omega⟩)
    have e3 : RowKit.wrap64 (N : Int) = E := by rw [hE]; exact wrapn (by omega)
    clear h hx hn hn2 hN hlo hE
    go_enter Try.func14, Try.ntmps14
    go_upto_region 5 with (fail)
    try simp only [e1]
    try simp only [e2]
    try simp only [e3]
    clear e1 e2 e3
    go_loopg [1] ((E - ((a : Nat) : Int)).toNat) (fun kk av wr => ∃ b c : Nat, av = .int .i64 (b : Int) ∧ kk = (E - (b : Int)).toNat ∧ Hid (b / 16 = c ∧ lo ≤ c ∧ ((c = lo ∧ b = a) ∨ (b = 16 * c ∧ 16 * (c : Int) - 16 < E)) ∧ AR wr { A with M := tk A.M lo c } ∧ Mv w wr A.blks))
    case atStart => exact ⟨a, lo, rfl, rfl, Lib.hid ⟨by first | rfl | exact SP.out.1, Nat.le_refl _, .inl ⟨rfl, rfl⟩, by rw [tk_self]; exact HH.out, Mv.refl _ _⟩⟩
    case round =>
      obtain ⟨b, c, rfl, hk, hh⟩ := hrel
      obtain ⟨hc, hlc, hd, hA, hmv⟩ := hh.out
      by_cases hlt : (b : Int) < E
      · obtain ⟨q1, q2, q3, q4, q5, q6, q7⟩ := mk_next hc hlt SP.out.2.1 HN.out SP.out.2.2.1
        have c2 := hA.c2
        dsimp only at c2
        have CS := Lib.hid (aset A.mb A.nb b _ wr q1 SP.out.2.2.1 (by rw [hc]; exact hA.cM q7) (by rw [hc]; exact hA.fM _))
        rw [hc] at CS
        obtain ⟨s, hs⟩ : ∃ s, b % 16 = s := ⟨_, rfl⟩
        have t1 : Int.tmod (b : Int) 16 = (s : Int) := by rw [← hs]; rfl
        obtain ⟨d, hd2⟩ : ∃ d, 16 * c = d := ⟨_, rfl⟩
        rw [hs, hd2] at q2
        have e5 : RowKit.wrap64 ((b : Int) - (s : Int)) = (d : Int) := by rw [sub_of q2]; exact wrapn (by rw [← hd2]; exact Nat.le_trans q6 (by decide))
        have e6 : RowKit.wrap64 ((d : Int) + 16) = ((d + 16 : Nat) : Int) := wrap16 (by rw [← hd2]; exact q6)
        have e7 : RowKit.wrap64 (s : Int) = (s : Int) := wrapn (by rw [← hs]; exact Nat.le_trans (Nat.le_of_lt (Nat.mod_lt _ (by decide))) (by decide))
        rw [hd2] at q3 q5
        have HA := Lib.hid (show AR (wr.setCell ⟨A.mb, c, none⟩ (.bool true)) { A with M := tk A.M lo (c + 1) } by have h9 := hA.setM c true; dsimp only at h9; rw [tk_step A.M hlc] at h9; exact h9)
        have HV := Lib.hid (show Mv w (wr.setCell ⟨A.mb, c, none⟩ (.bool true)) A.blks from hmv.setCell (by simp) _)
        have HJ := Lib.hid (show (d + 16) / 16 = c + 1 ∧ lo ≤ c + 1 ∧ (d + 16 = 16 * (c + 1) ∧ 16 * ((c + 1 : Nat) : Int) - 16 < E) from ⟨q3, Nat.le_succ_of_le hlc, by rw [← hd2]; rfl, q4⟩)
        have HL := Lib.hid (show (E - ((d + 16 : Nat) : Int)).toNat < gk from hk ▸ q5)
        clear hc hlc hd hA hmv q1 q2 q3 q4 q5 q6 q7 hs hd2 hk hh
        go_wp2_with (fail)
        refine CS.out.mono ?_
        rintro e w2 ⟨rfl, rfl⟩
        go_wp2_with (fail)
        go_roundg (E - ((d + 16 : Nat) : Int)).toNat
        case measure => exact HL.out
        case rel => exact ⟨d + 16, c + 1, by first | rfl | rw [e6], rfl, Lib.hid ⟨HJ.out.1, HJ.out.2.1, .inr HJ.out.2.2, HA.out, HV.out⟩⟩
      · have HA := Lib.hid (show AR wr { A with M := mkM A.M (a : Int) n } from hA.eqv (T := A.T) (fun _ _ => rfl) (fun l hl => mk_fin SP.out.2.2.2.1 (SP.out.2.2.2.2.2 l hl).1 (SP.out.2.2.2.2.2 l hl).2 SP.out.2.2.2.2.1 hlt hd))
        have HV := Lib.hid hmv
        clear hc hlc hd hA hmv hk hh
        go_wp2_with (fail)
        go_end0
        exact ⟨rfl, HA.out, HV.out⟩
  · obtain ⟨E, hE⟩ : ∃ E, E = (a : Int) + n := ⟨_, rfl⟩
    have e2 : RowKit.wrap64 ((a : Int) + n) = E := by rw [hE]; exact wrapi ⟨by omega, by omega⟩
    have SP := Lib.hid (show (a / 16 = lo ∧ E ≤ (N : Int) ∧ A.nb ≤ 4096 ∧ 1 ≤ n ∧ (((a : Nat) : Int) < E ∨ E ≤ 16 * ((lo : Nat) : Int)) ∧ ∀ l, l < 16 * A.nb → ((lo ≤ l ↔ (a : Int) < 16 * (l : Int) + 16) ∧ (16 * (l : Int) < E ↔ 16 * (l : Int) < (a : Int) + n))) from ⟨hlo, by omega, hn2, hn.1, .inl (by omega), fun l hl => by omega⟩)
    clear h hx hn hn2 hN hlo hE
    go_enter Try.func14, Try.ntmps14
    go_upto_region 5 with (fail)
    try simp only [e1]
    try simp only [e2]
    clear e1 e2
    go_loopg [1] ((E - ((a : Nat) : Int)).toNat) (fun kk av wr => ∃ b c : Nat, av = .int .i64 (b : Int) ∧ kk = (E - (b : Int)).toNat ∧ Hid (b / 16 = c ∧ lo ≤ c ∧ ((c = lo ∧ b = a) ∨ (b = 16 * c ∧ 16 * (c : Int) - 16 < E)) ∧ AR wr { A with M := tk A.M lo c } ∧ Mv w wr A.blks))
    case atStart => exact ⟨a, lo, rfl, rfl, Lib.hid ⟨by first | rfl | exact SP.out.1, Nat.le_refl _, .inl ⟨rfl, rfl⟩, by rw [tk_self]; exact HH.out, Mv.refl _ _⟩⟩
    case round =>
      obtain ⟨b, c, rfl, hk, hh⟩ := hrel
      obtain ⟨hc, hlc, hd, hA, hmv⟩ := hh.out
      by_cases hlt : (b : Int) < E
      · obtain ⟨q1, q2, q3, q4, q5, q6, q7⟩ := mk_next hc hlt SP.out.2.1 HN.out SP.out.2.2.1
        have c2 := hA.c2
        dsimp only at c2
        have CS := Lib.hid (aset A.mb A.nb b _ wr q1 SP.out.2.2.1 (by rw [hc]; exact hA.cM q7) (by rw [hc]; exact hA.fM _))
        rw [hc] at CS
        obtain ⟨s, hs⟩ : ∃ s, b % 16 = s := ⟨_, rfl⟩
        have t1 : Int.tmod (b : Int) 16 = (s : Int) := by rw [← hs]; rfl
        obtain ⟨d, hd2⟩ : ∃ d, 16 * c = d := ⟨_, rfl⟩
        rw [hs, hd2] at q2
        have e5 : RowKit.wrap64 ((b : Int) - (s : Int)) = (d : Int) := by rw [sub_of q2]; exact wrapn (by rw [← hd2]; exact Nat.le_trans q6 (by decide))
        have e6 : RowKit.wrap64 ((d : Int) + 16) = ((d + 16 : Nat) : Int) := wrap16 (by rw [← hd2]; exact q6)
        have e7 : RowKit.wrap64 (s : Int) = (s : Int) := wrapn (by rw [← hs]; exact Nat.le_trans (Nat.le_of_lt (Nat.mod_lt _ (by decide))) (by decide))
        rw [hd2] at q3 q5
        have HA := Lib.hid (show AR (wr.setCell ⟨A.mb, c, none⟩ (.bool true)) { A with M := tk A.M lo (c + 1) } by have h9 := hA.setM c true; dsimp only at h9; rw [tk_step A.M hlc] at h9; exact h9)
        have HV := Lib.hid (show Mv w (wr.setCell ⟨A.mb, c, none⟩ (.bool true)) A.blks from hmv.setCell (by simp) _)
        have HJ := Lib.hid (show (d + 16) / 16 = c + 1 ∧ lo ≤ c + 1 ∧ (d + 16 = 16 * (c + 1) ∧ 16 * ((c + 1 : Nat) : Int) - 16 < E) from ⟨q3, Nat.le_succ_of_le hlc, by rw [← hd2]; rfl, q4⟩)
        have HL := Lib.hid (show (E - ((d + 16 : Nat) : Int)).toNat < gk from hk ▸ q5)
        clear hc hlc hd hA hmv q1 q2 q3 q4 q5 q6 q7 hs hd2 hk hh
        go_wp2_with (fail)
        refine CS.out.mono ?_
        rintro e w2 ⟨rfl, rfl⟩
        go_wp2_with (fail)
        go_roundg (E - ((d + 16 : Nat) : Int)).toNat
        case measure => exact HL.out
        case rel => exact ⟨d + 16, c + 1, by first | rfl | rw [e6], rfl, Lib.hid ⟨HJ.out.1, HJ.out.2.1, .inr HJ.out.2.2, HA.out, HV.out⟩⟩
      · have HA := Lib.hid (show AR wr { A with M := mkM A.M (a : Int) n } from hA.eqv (T := A.T) (fun _ _ => rfl) (fun l hl => mk_fin SP.out.2.2.2.1 (SP.out.2.2.2.2.2 l hl).1 (SP.out.2.2.2.2.2 l hl).2 SP.out.2.2.2.2.1 hlt hd))
        have HV := Lib.hid hmv
        clear hc hlc hd hA hmv hk hh
        go_wp2_with (fail)
        go_end0
        exact ⟨rfl, HA.out, HV.out⟩

set_option maxRecDepth 100000 in
set_option maxHeartbeats 4000000 in
theorem amark4 (A : Ar) (x n : Int) (w : World) (h : AR w A) (hx : x < 0 ∧ -9223372036854775808 ≤ x) (hn : 1 ≤ n ∧ n ≤ 9223372036854775807) :
    Calls Try.prog 14 #[.pointer (some ⟨A.b, 0, none⟩), .int .i64 x, .int .i64 n] w fun e w' => e = .returned (.tuple #[]) ∧ AR w' { A with M := mkM A.M x n } ∧ Mv w w' A.blks := by
  have c0 := h.c0
  have hn2 := h.n2
  obtain ⟨N, hN⟩ : ∃ N, A.nb * 256 = N := ⟨_, rfl⟩
  rw [hN] at c0
  have a1 : decide (n < 1) = false := decide_eq_false (by omega)
  have a2' : decide ((N : Int) ≤ x) = false := decide_eq_false (by omega)
  have a3 : decide (x < 0) = true := decide_eq_true (by omega)
  obtain ⟨m, hm0⟩ : ∃ m, n + x = m := ⟨_, rfl⟩
  have e0 : RowKit.wrap64 (n + x) = m := by rw [hm0]; unfold RowKit.wrap64; omega
  have e1 : RowKit.wrap64 (N : Int) = (N : Int) := wrapn (by omega)
  have HN := Lib.hid hN
  have HH := Lib.hid h
  by_cases hm : (N : Int) < m
  · obtain ⟨E, hE⟩ : ∃ E, E = (N : Int) := ⟨_, rfl⟩
    have SP := Lib.hid (show (0 / 16 = 0 ∧ E ≤ (N : Int) ∧ A.nb ≤ 4096 ∧ 1 ≤ n ∧ (((0 : Nat) : Int) < E ∨ E ≤ 16 * ((0 : Nat) : Int)) ∧ ∀ l, l < 16 * A.nb → ((0 ≤ l ↔ x < 16 * (l : Int) + 16) ∧ (16 * (l : Int) < E ↔ 16 * (l : Int) < x + n))) from ⟨rfl, by omega, hn2, hn.1, by omega, fun l hl => by omega⟩)
    have e1 : RowKit.wrap64 (N : Int) = E := by rw [hE]; exact wrapn (by omega)
    clear h hx hn hn2 hN hm0
    subst hE
    go_enter Try.func14, Try.ntmps14
    go_upto_region 5 with (fail)
    try simp only [e0]
    try simp only [e1]
    clear e0 e1
    go_loopg [1] (((N : Int) - ((0 : Nat) : Int)).toNat) (fun kk av wr => ∃ b c : Nat, av = .int .i64 (b : Int) ∧ kk = ((N : Int) - (b : Int)).toNat ∧ Hid (b / 16 = c ∧ 0 ≤ c ∧ ((c = 0 ∧ b = 0) ∨ (b = 16 * c ∧ 16 * (c : Int) - 16 < (N : Int))) ∧ AR wr { A with M := tk A.M 0 c } ∧ Mv w wr A.blks))
    case atStart => exact ⟨0, 0, rfl, rfl, Lib.hid ⟨by first | rfl | exact SP.out.1, Nat.le_refl _, .inl ⟨rfl, rfl⟩, by rw [tk_self]; exact HH.out, Mv.refl _ _⟩⟩
    case round =>
      obtain ⟨b, c, rfl, hk, hh⟩ := hrel
      obtain ⟨hc, hlc, hd, hA, hmv⟩ := hh.out
      by_cases hlt : (b : Int) < (N : Int)
      · obtain ⟨q1, q2, q3, q4, q5, q6, q7⟩ := mk_next hc hlt SP.out.2.1 HN.out SP.out.2.2.1
        have c2 := hA.c2
        dsimp only at c2
        have CS := Lib.hid (aset A.mb A.nb b _ wr q1 SP.out.2.2.1 (by rw [hc]; exact hA.cM q7) (by rw [hc]; exact hA.fM _))
        rw [hc] at CS
        obtain ⟨s, hs⟩ : ∃ s, b % 16 = s := ⟨_, rfl⟩
        have t1 : Int.tmod (b : Int) 16 = (s : Int) := by rw [← hs]; rfl
        obtain ⟨d, hd2⟩ : ∃ d, 16 * c = d := ⟨_, rfl⟩
        rw [hs, hd2] at q2
        have e5 : RowKit.wrap64 ((b : Int) - (s : Int)) = (d : Int) := by rw [sub_of q2]; exact wrapn (by rw [← hd2]; exact Nat.le_trans q6 (by decide))
        have e6 : RowKit.wrap64 ((d : Int) + 16) = ((d + 16 : Nat) : Int) := wrap16 (by rw [← hd2]; exact q6)
        have e7 : RowKit.wrap64 (s : Int) = (s : Int) := wrapn (by rw [← hs]; exact Nat.le_trans (Nat.le_of_lt (Nat.mod_lt _ (by decide))) (by decide))
        rw [hd2] at q3 q5
        have HA := Lib.hid (show AR (wr.setCell ⟨A.mb, c, none⟩ (.bool true)) { A with M := tk A.M 0 (c + 1) } by have h9 := hA.setM c true; dsimp only at h9; rw [tk_step A.M hlc] at h9; exact h9)
        have HV := Lib.hid (show Mv w (wr.setCell ⟨A.mb, c, none⟩ (.bool true)) A.blks from hmv.setCell (by simp) _)
        have HJ := Lib.hid (show (d + 16) / 16 = c + 1 ∧ 0 ≤ c + 1 ∧ (d + 16 = 16 * (c + 1) ∧ 16 * ((c + 1 : Nat) : Int) - 16 < (N : Int)) from ⟨q3, Nat.le_succ_of_le hlc, by rw [← hd2]; rfl, q4⟩)
        have HL := Lib.hid (show ((N : Int) - ((d + 16 : Nat) : Int)).toNat < gk from hk ▸ q5)
        clear hc hlc hd hA hmv q1 q2 q3 q4 q5 q6 q7 hs hd2 hk hh
        go_wp2_with (fail)
        refine CS.out.mono ?_
        rintro e w2 ⟨rfl, rfl⟩
        go_wp2_with (fail)
        go_roundg ((N : Int) - ((d + 16 : Nat) : Int)).toNat
        case measure => exact HL.out
        case rel => exact ⟨d + 16, c + 1, by first | rfl | rw [e6], rfl, Lib.hid ⟨HJ.out.1, HJ.out.2.1, .inr HJ.out.2.2, HA.out, HV.out⟩⟩
      · have HA := Lib.hid (show AR wr { A with M := mkM A.M x n } from hA.eqv (T := A.T) (fun _ _ => rfl) (fun l hl => mk_fin SP.out.2.2.2.1 (SP.out.2.2.2.2.2 l hl).1 (SP.out.2.2.2.2.2 l hl).2 SP.out.2.2.2.2.1 hlt hd))
        have HV := Lib.hid hmv
        clear hc hlc hd hA hmv hk hh
        go_wp2_with (fail)
        go_end0
        exact ⟨rfl, HA.out, HV.out⟩
  · have SP := Lib.hid (show (0 / 16 = 0 ∧ m ≤ (N : Int) ∧ A.nb ≤ 4096 ∧ 1 ≤ n ∧ (((0 : Nat) : Int) < m ∨ m ≤ 16 * ((0 : Nat) : Int)) ∧ ∀ l, l < 16 * A.nb → ((0 ≤ l ↔ x < 16 * (l : Int) + 16) ∧ (16 * (l : Int) < m ↔ 16 * (l : Int) < x + n))) from ⟨rfl, by omega, hn2, hn.1, by omega, fun l hl => by omega⟩)
    have e2 : RowKit.wrap64 m = m := by unfold RowKit.wrap64; omega
    clear h hx hn hn2 hN hm0
    go_enter Try.func14, Try.ntmps14
    go_upto_region 5 with (fail)
    try simp only [e0]
    try simp only [e1]
    try simp only [e2]
    clear e0 e1 e2
    go_loopg [1] ((m - ((0 : Nat) : Int)).toNat) (fun kk av wr => ∃ b c : Nat, av = .int .i64 (b : Int) ∧ kk = (m - (b : Int)).toNat ∧ Hid (b / 16 = c ∧ 0 ≤ c ∧ ((c = 0 ∧ b = 0) ∨ (b = 16 * c ∧ 16 * (c : Int) - 16 < m)) ∧ AR wr { A with M := tk A.M 0 c } ∧ Mv w wr A.blks))
    case atStart => exact ⟨0, 0, rfl, rfl, Lib.hid ⟨by first | rfl | exact SP.out.1, Nat.le_refl _, .inl ⟨rfl, rfl⟩, by rw [tk_self]; exact HH.out, Mv.refl _ _⟩⟩
    case round =>
      obtain ⟨b, c, rfl, hk, hh⟩ := hrel
      obtain ⟨hc, hlc, hd, hA, hmv⟩ := hh.out
      by_cases hlt : (b : Int) < m
      · obtain ⟨q1, q2, q3, q4, q5, q6, q7⟩ := mk_next hc hlt SP.out.2.1 HN.out SP.out.2.2.1
        have c2 := hA.c2
        dsimp only at c2
        have CS := Lib.hid (aset A.mb A.nb b _ wr q1 SP.out.2.2.1 (by rw [hc]; exact hA.cM q7) (by rw [hc]; exact hA.fM _))
        rw [hc] at CS
        obtain ⟨s, hs⟩ : ∃ s, b % 16 = s := ⟨_, rfl⟩
        have t1 : Int.tmod (b : Int) 16 = (s : Int) := by rw [← hs]; rfl
        obtain ⟨d, hd2⟩ : ∃ d, 16 * c = d := ⟨_, rfl⟩
        rw [hs, hd2] at q2
        have e5 : RowKit.wrap64 ((b : Int) - (s : Int)) = (d : Int) := by rw [sub_of q2]; exact wrapn (by rw [← hd2]; exact Nat.le_trans q6 (by decide))
        have e6 : RowKit.wrap64 ((d : Int) + 16) = ((d + 16 : Nat) : Int) := wrap16 (by rw [← hd2]; exact q6)
        have e7 : RowKit.wrap64 (s : Int) = (s : Int) := wrapn (by rw [← hs]; exact Nat.le_trans (Nat.le_of_lt (Nat.mod_lt _ (by decide))) (by decide))
        rw [hd2] at q3 q5
        have HA := Lib.hid (show AR (wr.setCell ⟨A.mb, c, none⟩ (.bool true)) { A with M := tk A.M 0 (c + 1) } by have h9 := hA.setM c true; dsimp only at h9; rw [tk_step A.M hlc] at h9; exact h9)
        have HV := Lib.hid (show Mv w (wr.setCell ⟨A.mb, c, none⟩ (.bool true)) A.blks from hmv.setCell (by simp) _)
        have HJ := Lib.hid (show (d + 16) / 16 = c + 1 ∧ 0 ≤ c + 1 ∧ (d + 16 = 16 * (c + 1) ∧ 16 * ((c + 1 : Nat) : Int) - 16 < m) from ⟨q3, Nat.le_succ_of_le hlc, by rw [← hd2]; rfl, q4⟩)
        have HL := Lib.hid (show (m - ((d + 16 : Nat) : Int)).toNat < gk from hk ▸ q5)
        clear hc hlc hd hA hmv q1 q2 q3 q4 q5 q6 q7 hs hd2 hk hh
        go_wp2_with (fail)
        refine CS.out.mono ?_
        rintro e w2 ⟨rfl, rfl⟩
        go_wp2_with (fail)
        go_roundg (m - ((d + 16 : Nat) : Int)).toNat
        case measure => exact HL.out
        case rel => exact ⟨d + 16, c + 1, by first | rfl | rw [e6], rfl, Lib.hid ⟨HJ.out.1, HJ.out.2.1, .inr HJ.out.2.2, HA.out, HV.out⟩⟩
      · have HA := Lib.hid (show AR wr { A with M := mkM A.M x n } from hA.eqv (T := A.T) (fun _ _ => rfl) (fun l hl => mk_fin SP.out.2.2.2.1 (SP.out.2.2.2.2.2 l hl).1 (SP.out.2.2.2.2.2 l hl).2 SP.out.2.2.2.2.1 hlt hd))
        have HV := Lib.hid hmv
        clear hc hlc hd hA hmv hk hh
        go_wp2_with (fail)
        go_end0
        exact ⟨rfl, HA.out, HV.out⟩

set_option maxRecDepth 100000 in
theorem amark_no (A : Ar) (x n : Int) (w : World) (h : AR w A) (hn : n < 1 ∨ (256 * A.nb : Nat) ≤ x) :
    Calls Try.prog 14 #[.pointer (some ⟨A.b, 0, none⟩), .int .i64 x, .int .i64 n] w fun e w' => e = .returned (.tuple #[]) ∧ w = w' := by
  have c0 := h.c0
  obtain ⟨N, hN⟩ : ∃ N, A.nb * 256 = N := ⟨_, rfl⟩
  rw [hN] at c0
  by_cases h1 : n < 1
  · have a1 : decide (n < 1) = true := decide_eq_true h1
    clear h hn hN
    go_enter Try.func14, Try.ntmps14
    go_wp2_with (fail)
    refine bodyPost_ret (results_none rfl _ _ _) rfl ?_
    exact ⟨rfl, rfl⟩
  · have a1 : decide (n < 1) = false := decide_eq_false h1
    have a2 : decide ((N : Int) ≤ x) = true := decide_eq_true (by omega)
    clear h hn hN
    go_enter Try.func14, Try.ntmps14
    go_wp2_with (fail)
    refine bodyPost_ret (results_none rfl _ _ _) rfl ?_
    exact ⟨rfl, rfl⟩
/-- Mark, whatever it is asked -/
theorem amark (A : Ar) (x n : Int) (w : World) (h : AR w A) (hx : -9223372036854775808 ≤ x ∧ x ≤ 9223372036854775807) (hn : n ≤ 9223372036854775807) :
    Calls Try.prog 14 #[.pointer (some ⟨A.b, 0, none⟩), .int .i64 x, .int .i64 n] w fun e w' => e = .returned (.tuple #[]) ∧ AR w' { A with M := mkM A.M x n } ∧ Mv w w' A.blks := by
  by_cases h1 : n < 1
  · refine (amark_no A x n w h (.inl h1)).mono ?_
    rintro e w' ⟨rfl, rfl⟩
    exact ⟨rfl, by rw [mkM_no A.M h1]; exact h, Mv.refl _ _⟩
  · by_cases h2 : ((256 * A.nb : Nat) : Int) ≤ x
    · refine (amark_no A x n w h (.inr h2)).mono ?_
      rintro e w' ⟨rfl, rfl⟩
      exact ⟨rfl, h.eqv (T := A.T) (fun _ _ => rfl) (fun l hl => by
        unfold mkM
        rw [decide_eq_false (by omega : ¬ x < 16 * (l : Int) + 16)]
        simp), Mv.refl _ _⟩
    · by_cases h3 : x < 0
      · exact amark4 A x n w h ⟨h3, hx.1⟩ ⟨by omega, hn⟩
      · obtain ⟨a, rfl⟩ := Int.eq_ofNat_of_zero_le (by omega : 0 ≤ x)
        exact amark3 A a n w h (by omega) ⟨by omega, hn⟩
end LM
end Go.Proofs.Ytghnaiinhbdgcaa
