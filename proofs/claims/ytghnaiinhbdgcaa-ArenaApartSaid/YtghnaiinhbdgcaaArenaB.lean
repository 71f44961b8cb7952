/- Walks of package arena: left, cut, set, has, Get, Set, Blocks; how many of a row are false. -/
import Derived.Test.YtghnaiinhbdgcaaArenaA
namespace Go.Proofs.Ytghnaiinhbdgcaa
open Go Go.RowKit
namespace LM
set_option linter.unusedVariables false

set_option maxRecDepth 100000 in
theorem aleft (x y : Int) (w : World) (hx : 0 ≤ x) (hx2 : x ≤ 1048576) (hy : 0 ≤ y) (hy2 : y ≤ 1048576) :
    Calls Try.prog 19 #[.agg #[.int .i64 x, .int .i64 y]] w fun e w' => e = .returned (.int .i64 (y - x)) ∧ Mv w w' [] := by
  have HM := Lib.hid (show Mv w (w.alloc (.cells #[.int .i64 x, .int .i64 y] 44)) [] from (Mv.refl _ _).alloc _)
  have e1 : RowKit.wrap64 (y - x) = y - x := by unfold RowKit.wrap64; omega
  have e2 : IntKind.i64.wrap (y - x) = y - x := by rw [IntKind.wrap_i64]; omega
  clear hx hx2 hy hy2
  go_enter Try.func19, Try.ntmps19
  go_wp2_with (fail)
  go_ret
  exact ⟨by first | rfl | rw [e1] | rw [e2], HM.out⟩

set_option maxRecDepth 100000 in
theorem acut_no (b o : Nat) (x y : Int) (n : Nat) (w : World) (c0 : w.cell? ⟨b, o, none⟩ = some (.int .i64 x)) (c1 : w.cell? ⟨b, o + 1, none⟩ = some (.int .i64 y)) (hx : 0 ≤ x) (hx2 : x ≤ 1048576) (hy : 0 ≤ y) (hy2 : y ≤ 1048576) (h : y - x < (n : Int)) :
    Calls Try.prog 22 #[.pointer (some ⟨b, o, none⟩), .int .i64 (n : Int)] w fun e w' => e = .returned (.tuple #[.int .i64 0, .bool false]) ∧ Mv w w' [] := by
  have L := Lib.hid fun W => aleft x y W hx hx2 hy hy2
  have d1 : decide (y - x < (n : Int)) = true := decide_eq_true h
  clear hx hx2 hy hy2 h
  go_enter Try.func22, Try.ntmps22
  go_wp2_with (fail)
  refine (L.out _).mono ?_
  rintro e w2 ⟨rfl, m2⟩
  have M2 := Lib.hid m2
  clear m2
  go_wp2_with (fail)
  go_returns
  exact ⟨rfl, M2.out⟩

set_option maxRecDepth 100000 in
theorem acut_yes (b o : Nat) (x y : Int) (n : Nat) (w : World) (c0 : w.cell? ⟨b, o, none⟩ = some (.int .i64 x)) (c1 : w.cell? ⟨b, o + 1, none⟩ = some (.int .i64 y)) (f0 : w.frozen? ⟨b, o, none⟩ = false) (hx : 0 ≤ x) (hx2 : x ≤ 1048576) (hy : 0 ≤ y) (hy2 : y ≤ 1048576) (h : (n : Int) ≤ y - x) :
    Calls Try.prog 22 #[.pointer (some ⟨b, o, none⟩), .int .i64 (n : Int)] w fun e w' => e = .returned (.tuple #[.int .i64 x, .bool true]) ∧ ∃ w1, Mv w w1 [] ∧ w1.setCell ⟨b, o, none⟩ (.int .i64 (x + n)) = w' := by
  have hb : b < w.heap.size := World.block_lt_of_cell? w _ c0
  have L := Lib.hid fun W => aleft x y W hx hx2 hy hy2
  have d1 : decide (y - x < (n : Int)) = false := decide_eq_false (by omega)
  have e1 : RowKit.wrap64 (x + (n : Int)) = x + n := by unfold RowKit.wrap64; omega
  have e2 : IntKind.i64.wrap (x + (n : Int)) = x + n := by rw [IntKind.wrap_i64]; omega
  clear hx hx2 hy hy2 h
  go_enter Try.func22, Try.ntmps22
  go_wp2_with (fail)
  refine (L.out _).mono ?_
  rintro e w2 ⟨rfl, m2⟩
  have k0 : w2.cell? ⟨b, o, none⟩ = some (.int .i64 x) := (m2.cell hb (by simp)).trans c0
  have k1 : w2.frozen? ⟨b, o, none⟩ = false := by
    have h9 := m2.keep b hb (by simp)
    unfold World.frozen? at f0 ⊢
    dsimp only at f0 ⊢
    rw [h9]
    exact f0
  have M2 := Lib.hid m2
  clear m2 c0 c1 f0
  go_wp2_with (fail)
  go_returns
  exact ⟨rfl, w2, M2.out, by first | rfl | rw [e1] | rw [e2]⟩

theorem wrapn {n : Nat} (h : n ≤ 4294967296) : RowKit.wrap64 (n : Int) = (n : Int) := by unfold RowKit.wrap64; omega
theorem wrap1 {n : Nat} (h : n ≤ 4294967295) : RowKit.wrap64 ((n : Int) + 1) = ((n + 1 : Nat) : Int) := by unfold RowKit.wrap64; omega
theorem wrap16 {n : Nat} (h : n ≤ 4294967280) : RowKit.wrap64 ((n : Int) + 16) = ((n + 16 : Nat) : Int) := by unfold RowKit.wrap64; omega
theorem wrapi {x : Int} (h : -4294967296 ≤ x ∧ x ≤ 4294967296) : RowKit.wrap64 x = x := by unfold RowKit.wrap64; omega
theorem place16 {x nb : Nat} (hx : x < 256 * nb) : ∃ q s r, x / 256 = q ∧ x % 256 = s ∧ s / 16 = r ∧ x / 16 = q * 16 + r ∧ q < nb ∧ s < 256 ∧ r < 16 :=
  ⟨_, _, _, rfl, rfl, rfl, by omega, Nat.div_lt_of_lt_mul hx, Nat.mod_lt _ (by decide), Nat.div_lt_of_lt_mul (Nat.lt_of_lt_of_le (Nat.mod_lt _ (by decide)) (by decide))⟩
set_option maxRecDepth 100000 in
set_option maxHeartbeats 2000000 in
theorem aset (g nb x : Nat) (u : Value) (w : World) (hx : x < 256 * nb) (hnb : nb ≤ 4096) (hc : w.cell? ⟨g, x / 16, none⟩ = some u) (hf : w.frozen? ⟨g, x / 16, none⟩ = false) :
    Calls Try.prog 23 #[.slice (some ⟨g, 0, none⟩) nb nb, .int .i64 (x : Int)] w fun e w' => e = .returned (.tuple #[]) ∧ w.setCell ⟨g, x / 16, none⟩ (.bool true) = w' := by
  obtain ⟨q, s, r, hq, hs, hr, eq1, b1, b3, b2⟩ := place16 hx
  have t1 : Int.tdiv (x : Int) 256 = (q : Int) := by rw [← hq]; rfl
  have t2 : Int.tmod (x : Int) 256 = (s : Int) := by rw [← hs]; rfl
  have t3 : Int.tdiv (s : Int) 16 = (r : Int) := by rw [← hr]; rfl
  have a1 : (q : Int) < (nb : Int) := Int.ofNat_lt.2 b1
  have a2 : (0 : Int) ≤ (q : Int) := Int.natCast_nonneg q
  have a3 : (r : Int) < 16 := Int.ofNat_lt.2 b2
  have a4 : (0 : Int) ≤ (r : Int) := Int.natCast_nonneg r
  have w1 : RowKit.wrap64 (q : Int) = (q : Int) := wrapn (Nat.le_trans (Nat.le_of_lt b1) (Nat.le_trans hnb (by decide)))
  have w2 : RowKit.wrap64 (s : Int) = (s : Int) := wrapn (Nat.le_trans (Nat.le_of_lt b3) (by decide))
  have w3 : RowKit.wrap64 (r : Int) = (r : Int) := wrapn (Nat.le_trans (Nat.le_of_lt b2) (by decide))
  rw [eq1] at hc hf ⊢
  clear hx hnb hq hs hr eq1 b3
  go_enter Try.func23, Try.ntmps23
  go_wp2_with (fail)
  go_end0
  exact ⟨rfl, rfl⟩

set_option maxRecDepth 100000 in
theorem ahas (A : Ar) (x : Int) (p q : Bool) (w : World) (h : AR w A) (hp : decide (0 ≤ x) = p) (hq : decide (x < ((256 * A.nb : Nat) : Int)) = q) :
    Calls Try.prog 17 #[.pointer (some ⟨A.b, 0, none⟩), .int .i64 x] w fun e w' => e = .returned (.bool (p && q)) ∧ w = w' := by
  have c0 := h.c0
  obtain ⟨N, hN⟩ : ∃ N, A.nb * 256 = N := ⟨_, rfl⟩
  rw [show 256 * A.nb = N by omega] at hq
  rw [hN] at c0
  generalize A.wb = wb at c0
  generalize A.b = b at c0 ⊢
  clear h hN
  cases p
  all_goals
    go_enter Try.func17, Try.ntmps17
    go_wp2_with (fail)
    go_ret
    first | exact ⟨rfl, rfl⟩ | exact ⟨by rw [hq]; rfl, rfl⟩ | exact ⟨by simp [hq], rfl⟩

set_option maxRecDepth 100000 in
theorem aget_no (A : Ar) (x : Int) (w : World) (h : AR w A) (hx : ¬ (0 ≤ x ∧ x < ((256 * A.nb : Nat) : Int))) :
    Calls Try.prog 7 #[.pointer (some ⟨A.b, 0, none⟩), .int .i64 x] w fun e w' => e = .returned (.tuple #[.int .u64 0, .int .i64 141]) ∧ w = w' := by
  have L := Lib.hid (ahas A x _ _ w h rfl rfl)
  have hb : (decide (0 ≤ x) && decide (x < ((256 * A.nb : Nat) : Int))) = false := by
    rcases Classical.em (0 ≤ x) with h1 | h1
    · rw [decide_eq_true h1, decide_eq_false (fun h2 => hx ⟨h1, h2⟩)]; rfl
    · rw [decide_eq_false h1]; rfl
  rw [hb] at L
  clear h hx hb
  go_enter Try.func7, Try.ntmps7
  go_wp2_with (fail)
  refine L.out.mono ?_
  rintro e w2 ⟨rfl, rfl⟩
  go_wp2_with (fail)
  go_returns
  exact ⟨rfl, rfl⟩
set_option maxRecDepth 100000 in
theorem aget_yes (A : Ar) (x : Nat) (w : World) (h : AR w A) (hx : x < 256 * A.nb) :
    Calls Try.prog 7 #[.pointer (some ⟨A.b, 0, none⟩), .int .i64 (x : Int)] w fun e w' => e = .returned (.tuple #[.int .u64 ((A.W x : Nat) : Int), .int .i64 0]) ∧ w = w' := by
  have L := Lib.hid (ahas A (x : Int) true true w h (decide_eq_true (by omega)) (decide_eq_true (by omega)))
  have c0 := h.c0
  have c1 := h.cW hx
  obtain ⟨N, hN⟩ : ∃ N, A.nb * 256 = N := ⟨_, rfl⟩
  rw [hN] at c0
  have a1 : (x : Int) < (N : Int) := by omega
  have a2 : (0 : Int) ≤ (x : Int) := by omega
  have b1 : x < N := by omega
  generalize A.W x = v at c1 ⊢
  clear h hN hx
  go_enter Try.func7, Try.ntmps7
  go_wp2_with (fail)
  refine L.out.mono ?_
  rintro e w2 ⟨rfl, rfl⟩
  go_wp2_with (fail)
  go_returns
  exact ⟨rfl, rfl⟩
set_option maxRecDepth 100000 in
theorem aset_no (A : Ar) (x : Int) (v : Int) (w : World) (h : AR w A) (hx : ¬ (0 ≤ x ∧ x < ((256 * A.nb : Nat) : Int))) :
    Calls Try.prog 11 #[.pointer (some ⟨A.b, 0, none⟩), .int .i64 x, .int .u64 v] w fun e w' => e = .returned (.int .i64 141) ∧ w = w' := by
  have L := Lib.hid (ahas A x _ _ w h rfl rfl)
  have hb : (decide (0 ≤ x) && decide (x < ((256 * A.nb : Nat) : Int))) = false := by
    rcases Classical.em (0 ≤ x) with h1 | h1
    · rw [decide_eq_true h1, decide_eq_false (fun h2 => hx ⟨h1, h2⟩)]; rfl
    · rw [decide_eq_false h1]; rfl
  rw [hb] at L
  clear h hx hb
  go_enter Try.func11, Try.ntmps11
  go_wp2_with (fail)
  refine L.out.mono ?_
  rintro e w2 ⟨rfl, rfl⟩
  go_wp2_with (fail)
  go_ret
  exact ⟨rfl, rfl⟩
set_option maxRecDepth 100000 in
theorem aset_yes (A : Ar) (x v : Nat) (w : World) (h : AR w A) (hx : x < 256 * A.nb) :
    Calls Try.prog 11 #[.pointer (some ⟨A.b, 0, none⟩), .int .i64 (x : Int), .int .u64 (v : Int)] w fun e w' => e = .returned (.int .i64 0) ∧ AR w' { A with W := upd A.W x v } ∧ Mv w w' A.blks := by
  have L := Lib.hid (ahas A (x : Int) true true w h (decide_eq_true (by omega)) (decide_eq_true (by omega)))
  have HF := Lib.hid (show AR (w.setCell ⟨A.wb, x, none⟩ (.int .u64 (v : Int))) { A with W := upd A.W x v } ∧ Mv w (w.setCell ⟨A.wb, x, none⟩ (.int .u64 (v : Int))) A.blks from ⟨h.setW x v, (Mv.refl _ _).setCell (by simp) _⟩)
  have c0 := h.c0
  have c1 := h.cW hx
  have f1 := h.fW x
  obtain ⟨N, hN⟩ : ∃ N, A.nb * 256 = N := ⟨_, rfl⟩
  rw [hN] at c0
  have a1 : (x : Int) < (N : Int) := by omega
  have a2 : (0 : Int) ≤ (x : Int) := by omega
  have b1 : x < N := by omega
  clear h hN hx
  go_enter Try.func11, Try.ntmps11
  go_wp2_with (fail)
  refine L.out.mono ?_
  rintro e w2 ⟨rfl, rfl⟩
  go_wp2_with (fail)
  go_ret
  exact ⟨rfl, HF.out⟩
set_option maxRecDepth 100000 in
theorem ablocks (A : Ar) (w : World) (h : AR w A) :
    Calls Try.prog 9 #[.pointer (some ⟨A.b, 0, none⟩)] w fun e w' => e = .returned (.int .i64 ((A.nb : Nat) : Int)) ∧ w = w' := by
  have c0 := h.c1
  clear h
  go_enter Try.func9, Try.ntmps9
  go_wp2_with (fail)
  go_ret
  exact ⟨rfl, rfl⟩

/-- how many of n places from o on are false -/
def cntB (f : Nat → Bool) (o : Nat) : Nat → Nat
  | 0 => 0
  | n + 1 => cntB f o n + (if f (o + n) = false then 1 else 0)
theorem cntB_le (f : Nat → Bool) (o : Nat) : ∀ n, cntB f o n ≤ n
  | 0 => Nat.le_refl _
  | n + 1 => by
    have := cntB_le f o n
    unfold cntB
    split <;> omega
set_option maxRecDepth 100000 in
set_option maxHeartbeats 2000000 in
theorem acountB (g o n c : Nat) (f : Nat → Bool) (w : World) (hn : n ≤ 65536) (hc : ∀ i, i < n → w.cell? ⟨g, o + i, none⟩ = some (.bool (f (o + i)))) :
    Calls Try.prog 24 #[.slice (some ⟨g, o, none⟩) n c, .bool false] w fun e w' => e = .returned (.int .i64 ((cntB f o n : Nat) : Int)) ∧ w = w' := by
  have HC := Lib.hid hc
  have HN := Lib.hid hn
  clear hc hn
  go_enter Try.func24, Try.ntmps24
  go_wp2_with (fail)
  go_loopg [5, 10] n (fun kk av iv wr => ∃ i a : Nat, av = .int .i64 (a : Int) ∧ iv = .int .i64 (i : Int) ∧ kk = n - i ∧ i ≤ n ∧ Hid (a = cntB f o i ∧ w = wr))
  case atStart => exact ⟨0, 0, rfl, rfl, rfl, Nat.zero_le _, Lib.hid ⟨rfl, rfl⟩⟩
  case round =>
    obtain ⟨i, a, rfl, rfl, hk, hi, hh⟩ := hrel
    obtain ⟨ha, rfl⟩ := hh.out
    have hle := cntB_le f o i
    have hn := HN.out
    by_cases hin : i < n
    · have c1 := HC.out i hin
      obtain ⟨v, hv⟩ : ∃ v, f (o + i) = v := ⟨_, rfl⟩
      rw [hv] at c1
      have a1 : (i : Int) < (n : Int) := by omega
      have e1 : RowKit.wrap64 ((i : Int) + 1) = ((i + 1 : Nat) : Int) := by unfold RowKit.wrap64; omega
      have e2 : RowKit.wrap64 ((a : Int) + 1) = ((a + 1 : Nat) : Int) := by unfold RowKit.wrap64; omega
      have R1 := Lib.hid (show (if v = false then a + 1 else a) = cntB f o (i + 1) by rw [cntB, hv, ← ha]; split <;> rfl)
      have HK := Lib.hid hk
      have HI := Lib.hid hin
      clear ha hv hle hn hk hh
      cases v
      · go_wp2_with (fail)
        go_roundg (n - (i + 1))
        case measure => have h1 := HK.out; have h2 := HI.out; omega
        case rel => exact ⟨i + 1, a + 1, by first | rfl | rw [e2], by first | rfl | rw [e1], rfl, HI.out, Lib.hid ⟨by rw [← R1.out]; rfl, rfl⟩⟩
      · go_wp2_with (fail)
        go_roundg (n - (i + 1))
        case measure => have h1 := HK.out; have h2 := HI.out; omega
        case rel => exact ⟨i + 1, a, rfl, by first | rfl | rw [e1], rfl, HI.out, Lib.hid ⟨by rw [← R1.out]; rfl, rfl⟩⟩
    · obtain rfl : i = n := by omega
      have a1 : ¬ (i : Int) < (i : Int) := by omega
      have HA := Lib.hid ha
      clear ha hle hn
      go_wp2_with (fail)
      go_ret
      exact ⟨by rw [HA.out]; rfl, rfl⟩
end LM
end Go.Proofs.Ytghnaiinhbdgcaa
