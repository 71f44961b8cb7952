/- The walk of the statement FloRounds. -/
import Derived.Test.YtpaefbojilnnnaaGreatDoorJ46
import Derived.Test.YtpaefbojilnnnaaGreatDoorJ43
import Derived.Test.YtpaefbojilnnnaaGreatDoorJ18
import Derived.Test.YtpaefbojilnnnaaGreatDoorJ37
namespace Go.Proofs.YtpaefbojilnnnaaGreatDoor
open Go Go.RowKit
namespace LM
open Ieee
set_option linter.unusedVariables false

/-- two ways to write a number: the nearest word is the same -/
theorem nearest_eq (s : Bool) (T M : Nat) (b E : Int) (hb : -1074 ≤ b) (hE : -1074 ≤ E) (h : T * 2 ^ (b + 1074).toNat = M * 2 ^ (E + 1074).toNat) : double.nearest s T b = double.nearest s M E := by
  rcases Int.le_total b E with h1 | h1
  · obtain ⟨k, hk⟩ : ∃ k : Nat, E = b + k := ⟨(E - b).toNat, by omega⟩
    have hp : 0 < 2 ^ (b + 1074).toNat := Nat.two_pow_pos _
    have h2 : T = M * 2 ^ k := by
      rw [hk, show (b + (k : Int) + 1074).toNat = k + (b + 1074).toNat from by omega, Nat.pow_add, ← Nat.mul_assoc] at h
      exact Nat.eq_of_mul_eq_mul_right hp h
    rw [h2, show b = E - (k : Int) from by omega, nearest_scale]
  · obtain ⟨k, hk⟩ : ∃ k : Nat, b = E + k := ⟨(b - E).toNat, by omega⟩
    have hp : 0 < 2 ^ (E + 1074).toNat := Nat.two_pow_pos _
    have h2 : M = T * 2 ^ k := by
      rw [hk, show (E + (k : Int) + 1074).toNat = k + (E + 1074).toNat from by omega, Nat.pow_add, ← Nat.mul_assoc] at h
      exact (Nat.eq_of_mul_eq_mul_right hp h).symm
    rw [h2, show E = b - (k : Int) from by omega, nearest_scale]

/-- a sum that is a number of at most 53 digits is exact -/
theorem add_exact {s t : Bool} {m n : Nat} {e j : Int} (h : CanF m e) (k : CanF n j) (M : Nat) (E : Int) (hE : -1074 ≤ E)
    (hV : (sv s m e + sv t n j).natAbs = M * 2 ^ (E + 1074).toNat) :
    double.add (wordF s m e) (wordF t n j) = some (double.nearest (if sv s m e + sv t n j = 0 then s && t else decide (sv s m e + sv t n j < 0)) M E) := by
  unfold Format.add
  rw [read_word h, read_word k]
  have hb : -1074 ≤ min e j := by have := h.2.1; have := k.2.1; omega
  rw [sv_scale s m e (min e j) (by omega) hb, sv_scale t n j (min e j) (by omega) hb, ← Int.add_mul] at hV ⊢
  unfold Datum.sum
  dsimp only
  generalize signed s m (e - min e j).toNat + signed t n (j - min e j).toNat = S at hV ⊢
  have hp : 0 < 2 ^ (min e j + 1074).toNat := Nat.two_pow_pos _
  have z1 : (S * ((2 ^ (min e j + 1074).toNat : Nat) : Int) = 0) ↔ S = 0 := by
    rw [Int.mul_eq_zero]; omega
  have z2 : (S * ((2 ^ (min e j + 1074).toNat : Nat) : Int) < 0) ↔ S < 0 := by
    constructor
    · intro q
      rcases Int.lt_or_le S 0 with q2 | q2
      · exact q2
      · have := Int.mul_nonneg q2 (show (0 : Int) ≤ ((2 ^ (min e j + 1074).toNat : Nat) : Int) by omega)
        omega
    · intro q
      exact Int.mul_neg_of_neg_of_pos q (by omega)
  rw [Int.natAbs_mul, Int.natAbs_natCast] at hV
  simp only [z1, z2]
  show some (double.nearest (if S = 0 then (s && t) else decide (S < 0)) S.natAbs (min e j)) = _
  rw [nearest_eq _ S.natAbs M (min e j) E hb hE hV]
theorem sub_word {t : Bool} {n : Nat} {j : Int} (a : Nat) (k : CanF n j) : double.sub a (wordF t n j) = double.add a (wordF (!t) n j) := by
  unfold Format.sub Format.add
  rw [read_word k, read_word k]
  rfl
theorem sv_not (s : Bool) (m : Nat) (e : Int) : sv (!s) m e = -sv s m e := by
  cases s
  · rfl
  · show sv false m e = -sv true m e
    rw [sv_true, sv_false, Int.neg_neg]

/-- a whole number as a word -/
theorem whole_can (s : Bool) (q : Nat) (hq : q < 9007199254740992) : ∃ m e, CanF m e ∧ double.nearest s q 0 = wordF s m e ∧ sv s m e = sg s q * unit := by
  rcases Nat.eq_zero_or_pos q with rfl | h0
  · exact ⟨0, -1074, by unfold CanF; decide, nearest_zero s 0, by rw [(sv_zero s 0 (-1074)).2 rfl, sg_zero, Int.zero_mul]⟩
  · obtain ⟨k, hk, hc, hn, he⟩ := whole_norm s q h0 hq
    exact ⟨_, _, hc, he, sv_whole s q k (by omega)⟩

/-- RoundToEven, of what has digits behind the point -/
def evenQ (m P : Nat) : Nat := m / P + (decide (P < 2 * (m % P)) || (decide (P = 2 * (m % P)) && decide (m / P % 2 = 1))).toNat
theorem even_down {s : Bool} {m : Nat} {e : Int} (h : CanF m e) (he : e < 0) : double.write ((Datum.number s m e).integral .even) = double.nearest s (evenQ m (2 ^ (-e).toNat)) 0 := by
  have h1 := integral_down .even (s := s) h he
  rw [read_word h] at h1
  rw [h1]
  unfold evenQ moreB
  have e1 : ∀ a b : Nat, (a == b) = decide (a = b) := fun a b => by rw [Bool.eq_iff_iff, beq_iff_eq, decide_eq_true_iff]
  simp only [e1]

end LM
end Go.Proofs.YtpaefbojilnnnaaGreatDoor

namespace Go.Proofs.YtpaefbojilnnnaaGreatDoor
open Go Go.RowKit
namespace LM
open Ieee
set_option linter.unusedVariables false

theorem frexp_y {s : Bool} {m : Nat} {e : Int} (h : CanF m e) (hn : 4503599627370496 ≤ m) (w : World) :
    Calls Tryz.prog 71 #[.float .f64 (wordF s m e)] w fun r w' => r = .returned (.tuple #[.float .f64 (wordF s m (-53)), .int .i64 (e + 53)]) ∧ ∃ k, w' = w.drewN k := by
  obtain ⟨p1, p2, p3, p4⟩ := word_parts (s := s) h hn
  obtain ⟨h1, h2, h3, -⟩ := h
  have hc := exp_clear (wordF s m e) p1
  rw [p3, p4] at hc
  have hs := exp_set (if s then 1 else 0) (m - 4503599627370496) 1022 (by split <;> omega) (by omega) (by decide)
  have hy := word_y s m (-53) hn h1 (by decide)
  rw [show ((-53 : Int) + 1075).toNat = 1022 from rfl] at hy
  rw [hy] at hs
  have hf := frexp_raw (wordF s m e) (e + 1075).toNat _ _ w p1 ((canf_zero ⟨h1, h2, h3, .inl hn⟩).trans (decide_eq_false (by omega))) (can_inf ⟨h1, h2, h3, .inl hn⟩) (can_nan ⟨h1, h2, h3, .inl hn⟩) (can_norm ⟨h1, h2, h3, .inl hn⟩ hn) p2 (by omega) (by omega) hc hs
  rw [show (((e + 1075).toNat : Nat) : Int) - 1022 = e + 53 from by omega] at hf
  exact mfrexp_raw _ _ _ w hf

/-- one step: the highest binary digit is taken away -/
theorem mod_step (n : Nat) (h2 : 2 ≤ n) (hn : n < 9007199254740992) : ∃ (m : Nat) (e : Int) (n' : Nat), CanF m e ∧ 4503599627370496 ≤ m ∧ double.nearest false n 0 = wordF false m e ∧ -51 ≤ e ∧ e ≤ 0 ∧ n' < n ∧ n' % 2 = n % 2 ∧
    double.sub (wordF false m e) (wordF false 4503599627370496 e) = some (double.nearest false n' 0) ∧ sv false m e = n * unit := by
  obtain ⟨k, hk, hc, hm, he⟩ := whole_norm false n (by omega) hn
  have hk51 : k ≤ 51 := by
    rcases Nat.lt_or_ge k 52 with h | h
    · omega
    · have hp : 2 ^ 52 ≤ 2 ^ k := Nat.pow_le_pow_right (by decide) h
      have h3 := Nat.mul_le_mul h2 hp
      have h4 := hc.1
      omega
  have hs : 4503599627370496 = 2 ^ (52 - k) * 2 ^ k := by
    rw [← Nat.pow_add, show 52 - k + k = 52 from by omega]
  have hge : 2 ^ (52 - k) ≤ n := by
    rcases Nat.lt_or_ge n (2 ^ (52 - k)) with h | h
    · have hp : 0 < 2 ^ k := Nat.two_pow_pos k
      have := Nat.mul_lt_mul_of_pos_right h hp
      omega
    · exact h
  have hev : 2 ^ (52 - k) = 2 * 2 ^ (51 - k) := by
    rw [show 52 - k = (51 - k) + 1 from by omega, Nat.pow_succ, Nat.mul_comm]
  have hpos : 0 < 2 ^ (52 - k) := Nat.two_pow_pos _
  have hc2 : CanF 4503599627370496 (-(k : Int)) := by unfold CanF; omega
  have w1 := sv_whole false n k (by omega)
  have w2 := sv_whole true (2 ^ (52 - k)) k (by omega)
  rw [← hs] at w2
  have hsum : sv false (n * 2 ^ k) (-(k : Int)) + sv true 4503599627370496 (-(k : Int)) = ((n - 2 ^ (52 - k) : Nat) : Int) * unit := by
    rw [w1, w2, ← Int.add_mul]
    congr 1
    unfold sg
    simp only [if_true, if_false, Bool.false_eq_true]
    omega
  refine ⟨n * 2 ^ k, -(k : Int), n - 2 ^ (52 - k), hc, hm, he, by omega, by omega, by omega, ?_, ?_, w1⟩
  · rw [hev] at hge ⊢
    omega
  · rw [sub_word _ hc2]
    have hu := unit_pow
    have ha := add_exact hc hc2 (s := false) (t := !false) (n - 2 ^ (52 - k)) 0 (by decide) (by rw [Bool.not_false, hsum, hu, Int.natAbs_mul, Int.natAbs_natCast, Int.natAbs_natCast])
    rw [ha, Bool.not_false, hsum]
    have hup := unit_pos
    have hnn : ¬ ((n - 2 ^ (52 - k) : Nat) : Int) * unit < 0 := by
      have := Int.mul_nonneg (show (0 : Int) ≤ ((n - 2 ^ (52 - k) : Nat) : Int) by omega) (show 0 ≤ unit by omega)
      omega
    rw [decide_eq_false hnn]
    split <;> rfl

end LM
end Go.Proofs.YtpaefbojilnnnaaGreatDoor

namespace Go.Proofs.YtpaefbojilnnnaaGreatDoor
open Go Go.RowKit
namespace LM
set_option linter.unusedVariables false

theorem two_can : CanF 4503599627370496 (-51) := by unfold CanF; decide
theorem sv_two : sv false 4503599627370496 (-51) = 2 * unit := by
  have h := sv_whole false 2 51 (by decide)
  exact h
theorem one_word : Ieee.double.nearest false 1 0 = 4607182418800017408 := by
  obtain ⟨k, h1, h2, h3, h4⟩ := whole_norm false 1 (by decide) (by decide)
  have h5 := h2.1
  have hk : k = 52 := by
    rcases Nat.lt_or_ge k 52 with h | h
    · have := Nat.pow_le_pow_right (show 0 < 2 by decide) (show k ≤ 51 by omega)
      omega
    · omega
  subst hk
  rw [h4]
  rfl
theorem two_gt {m n : Nat} {e : Int} (h : CanF m e) (hv : sv false m e = n * unit) : (FloatKind.f64.format.order (wordF false m e) 4611686018427387904 == some .gt) = decide (2 < n) := by
  have h1 := order_num (s := false) (t := false) h two_can
  rw [show wordF false 4503599627370496 (-51) = 4611686018427387904 from rfl] at h1
  show (Ieee.double.order (wordF false m e) 4611686018427387904 == some .gt) = _
  rw [h1, cmp_gt, sv_two, hv]
  congr 1
  have := unit_pos
  rw [Int.mul_lt_mul_right this]
  exact propext (by omega)
theorem two_eq {m n : Nat} {e : Int} (h : CanF m e) (hv : sv false m e = n * unit) : (FloatKind.f64.format.order (wordF false m e) 4611686018427387904 == some .eq) = decide (n = 2) := by
  have h1 := order_num (s := false) (t := false) h two_can
  rw [show wordF false 4503599627370496 (-51) = 4611686018427387904 from rfl] at h1
  show (Ieee.double.order (wordF false m e) 4611686018427387904 == some .eq) = _
  rw [h1, cmp_eq, sv_two, hv]
  congr 1
  have := unit_pos
  rw [Int.mul_eq_mul_right_iff (by omega)]
  exact propext (by omega)
theorem half_lt {m : Nat} (h1 : 4503599627370496 ≤ m) (h2 : m < 9007199254740992) : (FloatKind.f64.format.order (wordF false m (-53)) 4602678819172646912 == some .lt) = false := by
  have ha : CanF m (-53) := by unfold CanF; omega
  have hb : CanF 4503599627370496 (-53) := by unfold CanF; decide
  have h3 : (FloatKind.f64.format.order (wordF false m (-53)) (wordF false 4503599627370496 (-53)) == some .lt) = _ := lt_num ha hb
  rw [show wordF false 4503599627370496 (-53) = 4602678819172646912 from rfl] at h3
  rw [h3, sv_false, sv_false]
  have := Nat.mul_le_mul_right (2 ^ ((-53 : Int) + 1074).toNat) h1
  exact decide_eq_false (by omega)
theorem small_gt (n : Nat) (h : n < 2) : (FloatKind.f64.format.order (Ieee.double.nearest false n 0) 4611686018427387904 == some .gt) = false ∧ (FloatKind.f64.format.order (Ieee.double.nearest false n 0) 4611686018427387904 == some .eq) = false := by
  rcases (show n = 0 ∨ n = 1 by omega) with rfl | rfl
  · rw [nearest_zero]
    exact ⟨rfl, rfl⟩
  · rw [one_word]
    exact ⟨rfl, rfl⟩

set_option maxRecDepth 100000 in
set_option maxHeartbeats 2000000 in
theorem mod_raw (x r0 N : Nat) (c : Bool) (w : World) (hx : x < 18446744073709551616) (hi : (FloatKind.f64.format.order (x % 9223372036854775808) 9218868437227405311 == some .gt) = false) (hn : ¬ nanW x)
    (hlt : (FloatKind.f64.format.order x 0 == some .lt) = c) (h0 : (if c then Op.negFloat .f64 x else x) = Ieee.double.nearest false N 0) (hN : N < 9007199254740992) :
    Calls Tryz.prog 132 #[.float .f64 x, .float .f64 4611686018427387904] w fun e w' => e = .returned (.float .f64 (if c then Op.negFloat .f64 (Ieee.double.nearest false (N % 2) 0) else Ieee.double.nearest false (N % 2) 0)) ∧ ∃ k, w' = w.drewN k := by
  have I1 := Lib.hid fun W => isInf_any x W false hx hi
  have N1 := Lib.hid fun W => isNaN_any x W hx
  rw [show decide (nanW x) = false from decide_eq_false hn] at N1
  have c2 : CanF 4503599627370496 (-51) := by unfold CanF; decide
  have e2 : wordF false 4503599627370496 (-51) = 4611686018427387904 := rfl
  have N2 := Lib.hid fun W => isNaN_any 4611686018427387904 W (by decide)
  have hn2 := can_nan (s := false) c2
  rw [e2] at hn2
  rw [show decide (nanW 4611686018427387904) = false from decide_eq_false hn2] at N2
  have A2 : Hid (∀ W, Calls Tryz.prog 55 #[.float .f64 4611686018427387904] W fun e w' => e = .returned (.float .f64 4611686018427387904) ∧ W = w') := Lib.hid fun W => abs_any 4611686018427387904 W (by decide)
  have F2 : Hid (∀ W, Calls Tryz.prog 71 #[.float .f64 4611686018427387904] W fun r w' => r = .returned (.tuple #[.float .f64 4602678819172646912, .int .i64 2]) ∧ ∃ k, w' = W.drewN k) := Lib.hid fun W => frexp_y (s := false) c2 (by decide) W
  have o2 : (FloatKind.f64.format.order 4611686018427387904 0 == some .eq) = false := by rw [← e2]; exact (canf_zero c2).trans rfl
  have HC := Lib.hid h0
  obtain ⟨res, hres⟩ : ∃ res, (if c then Op.negFloat .f64 (Ieee.double.nearest false (N % 2) 0) else Ieee.double.nearest false (N % 2) 0) = res := ⟨_, rfl⟩
  rw [hres]
  have HRES := Lib.hid hres
  clear hres
  have HN := Lib.hid hN
  clear hx hi hn hn2 c2 e2 h0 hN
  have hneg : ∀ W, (Op.unary .neg (.float .f64 x)).run Tryz.prog W = .ok (.float .f64 (Op.negFloat .f64 x)) W := fun W => rfl
  cases c
  · go_enter Tryz.func132, Tryz.ntmps132
    go_wp2_with (fail)
    refine (I1.out _).mono ?_
    rintro e w' ⟨rfl, rfl⟩
    go_wp2_with (fail)
    refine (N1.out _).mono ?_
    rintro e w' ⟨rfl, rfl⟩
    go_wp2_with (fail)
    refine (N2.out _).mono ?_
    rintro e w' ⟨rfl, rfl⟩
    go_wp2_with (fail)
    refine (A2.out _).mono ?_
    rintro e w' ⟨rfl, rfl⟩
    go_wp2_with (fail)
    refine (F2.out _).mono ?_
    rintro e w' ⟨rfl, k0, rfl⟩
    go_wp2_with (fail)
    go_loopg [7, 8, 9] N (fun kk v7 _ _ wr => v7 = .float .f64 (Ieee.double.nearest false kk 0) ∧ kk % 2 = N % 2 ∧ kk ≤ N ∧ ∃ j, wr = w.drewN j)
    case atStart =>
      have h := HC.out
      simp only [Bool.false_eq_true, if_false] at h
      exact ⟨by rw [h], rfl, Nat.le_refl _, _, rfl⟩
    case round =>
      obtain ⟨rfl, hp, hle, j, rfl⟩ := hrel
      by_cases h2 : 2 ≤ gk
      · obtain ⟨m, e, n', hc, hm, hw, he1, he2, hl, hpar, hsub, hsv⟩ := mod_step gk h2 (by have := HN.out; omega)
        have ge1 := two_gt hc hsv
        have ge2 := two_eq hc hsv
        have glt := half_lt hm hc.1
        have hop : ∀ t W, (binOp .sub t (.float .f64 (wordF false m e)) (.float .f64 (wordF false 4503599627370496 e))).run Tryz.prog W = .ok (.float .f64 (Ieee.double.nearest false n' 0)) W := fun t W => run_float_arith W .sub t .f64 _ _ _ hsub
        obtain ⟨q, hq⟩ : ∃ q : Int, e + 53 = q := ⟨_, rfl⟩
        have F3 : Hid (∀ W, Calls Tryz.prog 71 #[.float .f64 (wordF false m e)] W fun r w' => r = .returned (.tuple #[.float .f64 (wordF false m (-53)), .int .i64 q]) ∧ ∃ k, w' = W.drewN k) := Lib.hid fun W => hq ▸ frexp_y hc hm W
        have L3 : Hid (∀ W, Calls Tryz.prog 73 #[.float .f64 4611686018427387904, .int .i64 (q - 2)] W fun r w' => r = .returned (.float .f64 (wordF false 4503599627370496 e)) ∧ ∃ k, w' = W.drewN k) := Lib.hid fun W => by
          have h := ldexp_can (s := false) two_can (by decide) (q - 2) (by omega) (by omega) W
          rw [show (-51 : Int) + (q - 2) = e from by omega] at h
          exact h
        have hq1 : 2 ≤ q := by omega
        have hq2 : q ≤ 53 := by omega
        rw [hw]
        have HPN : Hid (n' < gk ∧ n' % 2 = N % 2 ∧ n' ≤ N) := Lib.hid ⟨hl, by omega, by omega⟩
        obtain ⟨r2, hr2⟩ : ∃ r, Ieee.double.nearest false n' 0 = r := ⟨_, rfl⟩
        rw [hr2] at hop
        have HR2 := Lib.hid hr2
        generalize wordF false m (-53) = y at F3 glt
        generalize wordF false 4503599627370496 e = z at hop L3
        generalize wordF false m e = b at hop F3 ge1 ge2 ⊢
        clear hsub hsv hw hc hm he1 he2 hq hpar hl hp hle hr2
        rcases (show 2 < gk ∨ gk = 2 by omega) with hg | hg
        · rw [decide_eq_true hg] at ge1
          clear ge2 hg h2
          go_wp2_with (fail)
          refine (F3.out _).mono ?_
          rintro e w' ⟨rfl, k1, rfl⟩
          go_wp2_with (fail)
          refine (L3.out _).mono ?_
          rintro e w' ⟨rfl, k2, rfl⟩
          go_wp2_with (fail)
          go_roundg n'
          case measure => exact HPN.out.1
          case rel => exact ⟨by rw [HR2.out], HPN.out.2.1, HPN.out.2.2, _, rfl⟩
        · rw [decide_eq_false (show ¬ 2 < gk by omega)] at ge1
          rw [decide_eq_true hg] at ge2
          clear hg h2
          go_wp2_with (fail)
          refine (F3.out _).mono ?_
          rintro e w' ⟨rfl, k1, rfl⟩
          go_wp2_with (fail)
          refine (L3.out _).mono ?_
          rintro e w' ⟨rfl, k2, rfl⟩
          go_wp2_with (fail)
          go_roundg n'
          case measure => exact HPN.out.1
          case rel => exact ⟨by rw [HR2.out], HPN.out.2.1, HPN.out.2.2, _, rfl⟩
      · obtain ⟨ge1, ge2⟩ := small_gt gk (by omega)
        have hN2 : gk = N % 2 := by omega
        have hr := HRES.out
        simp only [Bool.false_eq_true, if_false] at hr
        rw [← hN2] at hr
        generalize Ieee.double.nearest false gk 0 = b at ge1 ge2 hr ⊢
        have hop : ∀ W, (Op.unary .neg (.float .f64 b)).run Tryz.prog W = .ok (.float .f64 (Op.negFloat .f64 b)) W := fun W => rfl
        have HR := Lib.hid hr
        clear hr hN2 hp hle h2
        go_wp2_with (fail)
        go_ret
        rw [HR.out]
        exact ⟨rfl, _, rfl⟩
  · go_enter Tryz.func132, Tryz.ntmps132
    go_wp2_with (fail)
    refine (I1.out _).mono ?_
    rintro e w' ⟨rfl, rfl⟩
    go_wp2_with (fail)
    refine (N1.out _).mono ?_
    rintro e w' ⟨rfl, rfl⟩
    go_wp2_with (fail)
    refine (N2.out _).mono ?_
    rintro e w' ⟨rfl, rfl⟩
    go_wp2_with (fail)
    refine (A2.out _).mono ?_
    rintro e w' ⟨rfl, rfl⟩
    go_wp2_with (fail)
    refine (F2.out _).mono ?_
    rintro e w' ⟨rfl, k0, rfl⟩
    go_wp2_with (fail)
    go_loopg [7, 8, 9] N (fun kk v7 _ _ wr => v7 = .float .f64 (Ieee.double.nearest false kk 0) ∧ kk % 2 = N % 2 ∧ kk ≤ N ∧ ∃ j, wr = w.drewN j)
    case atStart =>
      have h := HC.out
      simp only [if_true] at h
      exact ⟨by rw [h], rfl, Nat.le_refl _, _, rfl⟩
    case round =>
      obtain ⟨rfl, hp, hle, j, rfl⟩ := hrel
      by_cases h2 : 2 ≤ gk
      · obtain ⟨m, e, n', hc, hm, hw, he1, he2, hl, hpar, hsub, hsv⟩ := mod_step gk h2 (by have := HN.out; omega)
        have ge1 := two_gt hc hsv
        have ge2 := two_eq hc hsv
        have glt := half_lt hm hc.1
        have hop : ∀ t W, (binOp .sub t (.float .f64 (wordF false m e)) (.float .f64 (wordF false 4503599627370496 e))).run Tryz.prog W = .ok (.float .f64 (Ieee.double.nearest false n' 0)) W := fun t W => run_float_arith W .sub t .f64 _ _ _ hsub
        obtain ⟨q, hq⟩ : ∃ q : Int, e + 53 = q := ⟨_, rfl⟩
        have F3 : Hid (∀ W, Calls Tryz.prog 71 #[.float .f64 (wordF false m e)] W fun r w' => r = .returned (.tuple #[.float .f64 (wordF false m (-53)), .int .i64 q]) ∧ ∃ k, w' = W.drewN k) := Lib.hid fun W => hq ▸ frexp_y hc hm W
        have L3 : Hid (∀ W, Calls Tryz.prog 73 #[.float .f64 4611686018427387904, .int .i64 (q - 2)] W fun r w' => r = .returned (.float .f64 (wordF false 4503599627370496 e)) ∧ ∃ k, w' = W.drewN k) := Lib.hid fun W => by
          have h := ldexp_can (s := false) two_can (by decide) (q - 2) (by omega) (by omega) W
          rw [show (-51 : Int) + (q - 2) = e from by omega] at h
          exact h
        have hq1 : 2 ≤ q := by omega
        have hq2 : q ≤ 53 := by omega
        rw [hw]
        have HPN : Hid (n' < gk ∧ n' % 2 = N % 2 ∧ n' ≤ N) := Lib.hid ⟨hl, by omega, by omega⟩
        obtain ⟨r2, hr2⟩ : ∃ r, Ieee.double.nearest false n' 0 = r := ⟨_, rfl⟩
        rw [hr2] at hop
        have HR2 := Lib.hid hr2
        generalize wordF false m (-53) = y at F3 glt
        generalize wordF false 4503599627370496 e = z at hop L3
        generalize wordF false m e = b at hop F3 ge1 ge2 ⊢
        clear hsub hsv hw hc hm he1 he2 hq hpar hl hp hle hr2
        rcases (show 2 < gk ∨ gk = 2 by omega) with hg | hg
        · rw [decide_eq_true hg] at ge1
          clear ge2 hg h2
          go_wp2_with (fail)
          refine (F3.out _).mono ?_
          rintro e w' ⟨rfl, k1, rfl⟩
          go_wp2_with (fail)
          refine (L3.out _).mono ?_
          rintro e w' ⟨rfl, k2, rfl⟩
          go_wp2_with (fail)
          go_roundg n'
          case measure => exact HPN.out.1
          case rel => exact ⟨by rw [HR2.out], HPN.out.2.1, HPN.out.2.2, _, rfl⟩
        · rw [decide_eq_false (show ¬ 2 < gk by omega)] at ge1
          rw [decide_eq_true hg] at ge2
          clear hg h2
          go_wp2_with (fail)
          refine (F3.out _).mono ?_
          rintro e w' ⟨rfl, k1, rfl⟩
          go_wp2_with (fail)
          refine (L3.out _).mono ?_
          rintro e w' ⟨rfl, k2, rfl⟩
          go_wp2_with (fail)
          go_roundg n'
          case measure => exact HPN.out.1
          case rel => exact ⟨by rw [HR2.out], HPN.out.2.1, HPN.out.2.2, _, rfl⟩
      · obtain ⟨ge1, ge2⟩ := small_gt gk (by omega)
        have hN2 : gk = N % 2 := by omega
        have hr := HRES.out
        simp only [if_true] at hr
        rw [← hN2] at hr
        generalize Ieee.double.nearest false gk 0 = b at ge1 ge2 hr ⊢
        have hop : ∀ W, (Op.unary .neg (.float .f64 b)).run Tryz.prog W = .ok (.float .f64 (Op.negFloat .f64 b)) W := fun W => rfl
        have HR := Lib.hid hr
        clear hr hN2 hp hle h2
        go_wp2_with (fail)
        go_ret
        rw [HR.out]
        exact ⟨rfl, _, rfl⟩

end LM
end Go.Proofs.YtpaefbojilnnnaaGreatDoor

namespace Go.Proofs.YtpaefbojilnnnaaGreatDoor
open Go Go.RowKit
namespace LM
open Ieee
set_option linter.unusedVariables false

/-- a whole number's word, whatever its sign -/
theorem whole_both (q : Nat) (h0 : 0 < q) (hq : q < 9007199254740992) : ∃ m e, CanF m e ∧ 0 < m ∧ (∀ s, double.nearest s q 0 = wordF s m e) ∧ ∀ s, sv s m e = sg s q * unit := by
  obtain ⟨k, hk, hc, hn, he⟩ := whole_norm true q h0 hq
  refine ⟨_, _, hc, by omega, fun s => ?_, fun s => sv_whole s q k (by omega)⟩
  have h := nearest_scale s q k 0
  rw [← h, show (0 : Int) - (k : Int) = -(k : Int) from by omega, nearest_can hc]

theorem odd_word (n : Nat) (s : Bool) : (FloatKind.f64.format.order (if s then Op.negFloat .f64 (Ieee.double.nearest false (n % 2) 0) else Ieee.double.nearest false (n % 2) 0) 0 != some .eq) = decide (n % 2 = 1) := by
  rcases (show n % 2 = 0 ∨ n % 2 = 1 by omega) with h | h <;> rw [h]
  · rw [nearest_zero]
    cases s <;> rfl
  · rw [one_word]
    cases s <;> rfl

set_option maxHeartbeats 1000000 in
theorem mmod_raw (x y : Nat) (w : World) (h : Calls Tryz.prog 132 #[.float .f64 x, .float .f64 4611686018427387904] w fun e w' => e = .returned (.float .f64 y) ∧ ∃ k, w' = w.drewN k) :
    Calls Tryz.prog 67 #[.float .f64 x, .float .f64 4611686018427387904] w fun e w' => e = .returned (.float .f64 y) ∧ ∃ k, w' = w.drewN k := by
  have F1 := Lib.hid h
  clear h
  go_enter Tryz.func67, Tryz.ntmps67
  go_wp2_with (fail)
  refine F1.out.mono ?_
  rintro e w' ⟨rfl, k, rfl⟩
  go_wp2
  go_ret
  exact ⟨rfl, k, rfl⟩

theorem mod_two (s : Bool) (q : Nat) (h0 : s = true → 0 < q) (hq : q < 9007199254740992) (w : World) :
    Calls Tryz.prog 67 #[.float .f64 (double.nearest s q 0), .float .f64 4611686018427387904] w fun r w' => (∃ R, r = .returned (.float .f64 R) ∧ (FloatKind.f64.format.order R 0 != some .eq) = decide (q % 2 = 1)) ∧ ∃ k, w' = w.drewN k := by
  have hz : CanF 0 (-1074) := by unfold CanF; decide
  have main : ∀ (m : Nat) (e : Int), CanF m e → (∀ t, (t = true → 0 < q) → double.nearest t q 0 = wordF t m e) → (s = true → 0 < m) → Calls Tryz.prog 67 #[.float .f64 (double.nearest s q 0), .float .f64 4611686018427387904] w fun r w' => (∃ R, r = .returned (.float .f64 R) ∧ (FloatKind.f64.format.order R 0 != some .eq) = decide (q % 2 = 1)) ∧ ∃ k, w' = w.drewN k := by
    intro m e hc hw hm
    have hlt : (FloatKind.f64.format.order (wordF s m e) 0 == some .lt) = s := by
      have h1 := lt_num (s := s) (t := false) hc hz
      rw [show wordF false 0 (-1074) = 0 from rfl] at h1
      rw [h1, (sv_zero false 0 (-1074)).2 rfl]
      cases s
      · rw [sv_false]
        exact decide_eq_false (by omega)
      · have h2 := mt (sv_zero true m e).1 (by have := hm rfl; omega)
        rw [sv_true] at h2 ⊢
        exact decide_eq_true (by omega)
    have hr := mod_raw (wordF s m e) 0 q s w (can_lt hc) (can_inf hc) (can_nan hc) hlt (by
      cases s
      · simp only [Bool.false_eq_true, if_false]
        exact (hw false (by simp)).symm
      · simp only [if_true]
        rw [neg_word hc]
        exact (hw false (by simp)).symm) hq
    rw [hw s h0]
    refine (mmod_raw _ _ w hr).mono ?_
    rintro r w' ⟨rfl, hk⟩
    exact ⟨⟨_, rfl, odd_word q s⟩, hk⟩
  rcases Nat.eq_zero_or_pos q with rfl | hp
  · exact main 0 (-1074) hz (fun t _ => nearest_zero t 0) (fun h => absurd (h0 h) (by decide))
  · obtain ⟨m, e, hc, hm, hw, -⟩ := whole_both q hp hq
    exact main m e hc (fun t _ => hw t) (fun _ => hm)

theorem sign_word (s : Bool) (m : Nat) (e : Int) : wordF s m e = (if s then 9223372036854775808 else 0) + wordF false m e := by
  unfold wordF
  simp
theorem can_sign {s : Bool} {m : Nat} {e : Int} (h : CanF m e) : wordF s m e / 9223372036854775808 * 9223372036854775808 = if s then 9223372036854775808 else 0 := by
  have h1 := can_abs (s := s) h
  rw [sign_word] at h1 ⊢
  have h2 := can_lt (s := false) h
  have h3 := can_abs (s := false) h
  split at h1 <;> simp_all <;> omega

set_option maxHeartbeats 1000000 in
theorem copysign_raw (x y a c z : Nat) (w : World) (b1 : bits .andNot .u64 (x : Int) 9223372036854775808 = (a : Int)) (b2 : bits .and .u64 (y : Int) 9223372036854775808 = (c : Int)) (b3 : bits .or .u64 (a : Int) (c : Int) = (z : Int)) :
    Calls Tryz.prog 12 #[.float .f64 x, .float .f64 y] w fun e w' => e = .returned (.float .f64 z) ∧ w = w' := by
  have h1 := run_mbits x
  have h2 := run_mbits y
  have h3 := run_mfrom z
  go_enter Tryz.func12, Tryz.ntmps12
  go_wp2
  go_ret
  exact ⟨rfl, rfl⟩
theorem copysign_can {s t : Bool} {m n : Nat} {e j : Int} (h : CanF m e) (k : CanF n j) (w : World) :
    Calls Tryz.prog 12 #[.float .f64 (wordF t m e), .float .f64 (wordF s n j)] w fun r w' => r = .returned (.float .f64 (wordF s m e)) ∧ w = w' := by
  have b1 := abs_bits (wordF t m e) (can_lt h)
  rw [can_abs h] at b1
  have b2 := u64_and_nat (wordF s n j) 9223372036854775808 (can_lt k) (by decide)
  rw [top_bit _ (can_lt k), can_sign k] at b2
  have hl : wordF false m e < 9223372036854775808 := by
    have := can_abs (s := false) h
    omega
  have b3 := u64_or_nat (wordF false m e) (if s then 9223372036854775808 else 0) (can_lt h) (by split <;> decide)
  have h4 : wordF false m e ||| (if s then 9223372036854775808 else 0) = wordF s m e := by
    rw [Nat.or_comm, nat_join 63 _ _ (by cases s <;> decide) hl, ← sign_word]
  rw [h4] at b3
  exact copysign_raw _ _ _ _ _ w b1 b2 b3

/-- what is no number stays so, and may be made quiet -/
theorem integral_nan (P : Program) (W : World) (nm : String) (way : Toward) (x : Nat) (hx : x < 18446744073709551616) (hn : nanW x) :
    ∃ y k, (Extern.MathFloor.toIntegral nm way #[.float .f64 x]).run P W = .ok (.float .f64 y) (W.drewN k) ∧ nanW y ∧ y < 18446744073709551616 := by
  have hd : FloatKind.f64.decode x = .nan (x / 9223372036854775808 % 2 == 1) (x % 9223372036854775808 - 9218868437227405312) := read_nan x hn
  have ht : x % 9223372036854775808 - 9218868437227405312 < 4503599627370496 := by omega
  generalize x % 9223372036854775808 - 9218868437227405312 = t at hd ht
  generalize (x / 9223372036854775808 % 2 == 1) = s at hd
  obtain ⟨q, hq⟩ : ∃ q, FloatKind.f64.format.quiet t = q := ⟨_, rfl⟩
  have hq1 : q < 4503599627370496 := by
    rw [← hq]
    exact Nat.or_lt_two_pow (n := 52) ht (by decide)
  have hq2 : 2251799813685248 ≤ q := by
    rw [← hq]
    exact Nat.right_le_or
  have hw : FloatKind.f64.encode (.nan s q) = (if s then 9223372036854775808 else 0) + (9218868437227405312 + q) := by
    show double.word s (double.infRung + q % double.binade) = _
    rw [d_inf, d_bin, word_f, Nat.mod_eq_of_lt hq1]
  have hq3 : nanW (FloatKind.f64.encode (.nan s q)) ∧ FloatKind.f64.encode (.nan s q) < 18446744073709551616 := by
    rw [hw]
    unfold nanW
    cases s <;> simp <;> omega
  have hr : (Extern.MathFloor.toIntegral nm way #[.float .f64 x]).run P W = (if FloatKind.f64.format.quiet t = t then pure (.float .f64 x) else do
      let kept ← choose (.extern "math.Floor,Ceil,Trunc,RoundToEven.signallingNaN kept" 2)
      pure (.float .f64 (if kept == 1 then x else FloatKind.f64.encode (.nan s (FloatKind.f64.format.quiet t)))) : Sem Value).run P W := by
    show (Extern.MathFloor.toIntegral.match_1 (fun _ => Sem Value) (FloatKind.f64.decode x) _ _).run P W = _
    rw [hd]
  rw [hr, hq]
  by_cases hqt : q = t
  · rw [if_pos hqt]
    exact ⟨x, 0, rfl, hn, hx⟩
  · rw [if_neg hqt, Sem.run_bind, run_choose_drew, if_neg (show ¬ (Question.extern "math.Floor,Ceil,Trunc,RoundToEven.signallingNaN kept" 2).forced = true by rw [Question.forced.eq_4]; decide)]
    generalize Question.cut _ _ = c
    show ∃ y k, Sem.run P (pure (Value.float .f64 (if c == 1 then x else FloatKind.f64.encode (.nan s q)))) W.drew = _ ∧ _
    rw [Sem.run_pure]
    cases c == 1
    · exact ⟨_, 1, rfl, hq3.1, hq3.2⟩
    · exact ⟨_, 1, rfl, hn, hx⟩

end LM
end Go.Proofs.YtpaefbojilnnnaaGreatDoor

namespace Go.Proofs.YtpaefbojilnnnaaGreatDoor
open Go Go.RowKit
namespace LM
open Ieee
set_option linter.unusedVariables false

theorem whole_all (q : Nat) (hq : q < 9007199254740992) : ∃ m e, CanF m e ∧ (∀ s, double.nearest s q 0 = wordF s m e) ∧ ∀ s, sv s m e = sg s q * unit := by
  rcases Nat.eq_zero_or_pos q with rfl | h
  · exact ⟨0, -1074, by unfold CanF; decide, fun s => nearest_zero s 0, fun s => by rw [(sv_zero s 0 (-1074)).2 rfl, sg_zero, Int.zero_mul]⟩
  · obtain ⟨m, e, hc, -, h1, h2⟩ := whole_both q h hq
    exact ⟨m, e, hc, h1, h2⟩

theorem half_can : CanF 4503599627370496 (-53) := by unfold CanF; decide
theorem half_word : wordF false 4503599627370496 (-53) = 4602678819172646912 := rfl
theorem half_sv : 2 * sv false 4503599627370496 (-53) = unit := by
  have e1 : ((0 : Int) + 1074).toNat = 53 + ((-53 : Int) + 1074).toNat := by decide
  rw [sv_false, unit_pow, e1, Nat.pow_add]
  generalize ((-53 : Int) + 1074).toNat = a
  have h : 2 ^ 53 = 4503599627370496 * 2 := by decide
  generalize 2 ^ a = X
  rw [h]
  omega

/-- a word against a half -/
theorem half_gt {m : Nat} {e : Int} (h : CanF m e) : (FloatKind.f64.format.order (wordF false m e) 4602678819172646912 == some .gt) = decide (unit < 2 * sv false m e) := by
  have h1 := order_num (s := false) (t := false) h half_can
  rw [half_word] at h1
  show (double.order (wordF false m e) 4602678819172646912 == some .gt) = _
  rw [h1, cmp_gt]
  have := half_sv
  rw [Bool.eq_iff_iff, decide_eq_true_iff, decide_eq_true_iff]
  omega
theorem half_eq {m : Nat} {e : Int} (h : CanF m e) : (FloatKind.f64.format.order (wordF false m e) 4602678819172646912 == some .eq) = decide (unit = 2 * sv false m e) := by
  have h1 := order_num (s := false) (t := false) h half_can
  rw [half_word] at h1
  show (double.order (wordF false m e) 4602678819172646912 == some .eq) = _
  rw [h1, cmp_eq]
  have := half_sv
  rw [Bool.eq_iff_iff, decide_eq_true_iff, decide_eq_true_iff]
  omega

/-- a number of many digits beyond a half: its word is a half or more -/
theorem half_far (d dd : Nat) (hd : 54 ≤ d) (hd2 : d ≤ 1074) (h1 : 2 ^ (d - 1) ≤ dd) (h2 : dd < 2 ^ d) :
    (FloatKind.f64.format.order (double.nearest false dd (-(d : Int))) 4602678819172646912 == some .gt) = true ∨ (FloatKind.f64.format.order (double.nearest false dd (-(d : Int))) 4602678819172646912 == some .eq) = true := by
  have hlog : dd.log2 = d - 1 := by
    have hz : dd ≠ 0 := by have := Nat.two_pow_pos (d - 1); omega
    rw [Nat.log2_eq_iff hz]
    exact ⟨h1, by rw [show d - 1 + 1 = d from by omega]; exact h2⟩
  have hz : dd ≠ 0 := by have := Nat.two_pow_pos (d - 1); omega
  have hk : ∃ K, 4503599627370496 ≤ K ∧ K ≤ 9007199254740992 ∧ double.nearest false dd (-(d : Int)) = 1021 * 4503599627370496 + K := by
    unfold Format.nearest
    rw [if_neg hz, hlog]
    have hl : max (-(d : Int) + ((d - 1 : Nat) : Int) - ((double.fractionBits : Nat) : Int)) double.leastPlace = -53 := by
      have e1 : double.fractionBits = 52 := rfl
      have e2 : double.leastPlace = -1074 := by decide
      rw [e1, e2]
      omega
    dsimp only
    rw [hl, show (-(d : Int) - -53).toNat = 0 from by omega, Nat.shiftLeft_zero, cut_eq, show ((-53 : Int) - -(d : Int)).toNat = d - 53 from by omega]
    have e2 : double.leastPlace = -1074 := by decide
    rw [e2, d_bin, d_inf, show ((-53 : Int) - -1074).toNat = 1021 from rfl]
    have hp : 2 ^ (d - 1) = 4503599627370496 * 2 ^ (d - 53) := by
      rw [show d - 1 = 52 + (d - 53) from by omega, Nat.pow_add]
    have hp2 : 2 ^ d = 9007199254740992 * 2 ^ (d - 53) := by
      rw [show d = 53 + (d - 53) from by omega, Nat.pow_add, show 53 + (d - 53) - 53 = d - 53 from by omega]
    have hpp : 0 < 2 ^ (d - 53) := Nat.two_pow_pos _
    have q1 : 4503599627370496 ≤ dd / 2 ^ (d - 53) := by
      rw [Nat.le_div_iff_mul_le hpp]
      omega
    have q2 : dd / 2 ^ (d - 53) < 9007199254740992 := by
      rw [Nat.div_lt_iff_lt_mul hpp]
      omega
    generalize moreB _ _ _ _ _ = mo
    have q3 : mo.toNat ≤ 1 := Bool.toNat_le _
    refine ⟨dd / 2 ^ (d - 53) + mo.toNat, by omega, by omega, ?_⟩
    rw [word_f]
    simp only [Bool.false_eq_true, if_false, Nat.zero_add]
    omega
  obtain ⟨K, k1, k2, hw⟩ := hk
  rw [hw]
  rcases Nat.lt_or_ge K 9007199254740992 with h3 | h3
  · have hc : CanF K (-53) := by unfold CanF; omega
    have e1 : 1021 * 4503599627370496 + K = wordF false K (-53) := by
      unfold wordF
      rw [show ((-53 : Int) + 1074).toNat = 1021 from rfl]
      simp
    have h4 : sv false 4503599627370496 (-53) ≤ sv false K (-53) := by
      rw [sv_false, sv_false]
      have := Nat.mul_le_mul_right (2 ^ ((-53 : Int) + 1074).toNat) k1
      omega
    have h5 := half_sv
    rw [e1, half_gt hc, half_eq hc]
    rcases Int.lt_or_le unit (2 * sv false K (-53)) with h6 | h6
    · exact .inl (decide_eq_true h6)
    · exact .inr (decide_eq_true (by omega))
  · obtain rfl : K = 9007199254740992 := by omega
    exact .inl rfl

end LM
end Go.Proofs.YtpaefbojilnnnaaGreatDoor

namespace Go.Proofs.YtpaefbojilnnnaaGreatDoor
open Go Go.RowKit
namespace LM
open Ieee
set_option linter.unusedVariables false

/-- what is left above the floor, in units of the last digit -/
def restQ (s : Bool) (m P : Nat) : Nat := if s then P - m % P else m % P

/-- the word of what is left, against a half -/
theorem rest_half (s : Bool) (m d : Nat) (hm : m < 9007199254740992) (hd : 0 < d) (hd2 : d ≤ 1074) (hr : 0 < m % 2 ^ d) :
    ((FloatKind.f64.format.order (double.nearest false (restQ s m (2 ^ d)) (-(d : Int))) 4602678819172646912 == some .gt) || ((FloatKind.f64.format.order (double.nearest false (restQ s m (2 ^ d)) (-(d : Int))) 4602678819172646912 == some .eq) && decide (floorQ s m (2 ^ d) % 2 = 1))) =
      decide (2 ^ d < 2 * restQ s m (2 ^ d) ∨ (2 ^ d = 2 * restQ s m (2 ^ d) ∧ floorQ s m (2 ^ d) % 2 = 1)) := by
  have hP : 0 < 2 ^ d := Nat.two_pow_pos d
  have hml : m % 2 ^ d < 2 ^ d := Nat.mod_lt _ hP
  have hmle : m % 2 ^ d ≤ m := Nat.mod_le _ _
  have hR : 0 < restQ s m (2 ^ d) ∧ restQ s m (2 ^ d) < 2 ^ d := by
    unfold restQ
    split <;> omega
  rcases Nat.lt_or_ge (restQ s m (2 ^ d)) 9007199254740992 with h | h
  · obtain ⟨n, j, hc, hw, hs⟩ : ∃ n j, CanF n j ∧ double.nearest false (restQ s m (2 ^ d)) (-(d : Int)) = wordF false n j ∧ sv false n j = sv false (restQ s m (2 ^ d)) (-(d : Int)) := by
      obtain ⟨n, j, h1, h2, h3, -⟩ := nearest_small false (restQ s m (2 ^ d)) (-(d : Int)) h (by omega) (by omega)
      exact ⟨n, j, h1, h2, by rw [sv_false, sv_false, h3]⟩
    rw [hw, half_gt hc, half_eq hc, hs, sv_false, unit_split d hd2]
    have hV : 0 < 2 ^ (-(d : Int) + 1074).toNat := Nat.two_pow_pos _
    generalize 2 ^ (-(d : Int) + 1074).toNat = V at hV ⊢
    generalize restQ s m (2 ^ d) = R
    generalize 2 ^ d = P
    have i1 : (((P * V : Nat) : Int) < 2 * ((R * V : Nat) : Int)) ↔ P < 2 * R := by
      rw [show 2 * ((R * V : Nat) : Int) = ((2 * R * V : Nat) : Int) from by rw [Nat.mul_assoc]; omega]
      rw [Int.ofNat_lt]
      exact Nat.mul_lt_mul_right hV
    have i2 : (((P * V : Nat) : Int) = 2 * ((R * V : Nat) : Int)) ↔ P = 2 * R := by
      rw [show 2 * ((R * V : Nat) : Int) = ((2 * R * V : Nat) : Int) from by rw [Nat.mul_assoc]; omega]
      rw [Int.ofNat_inj]
      exact Nat.mul_left_inj (by omega)
    simp only [i1, i2]
    rw [Bool.eq_iff_iff]
    simp
  · have hs : s = true := by
      cases s
      · unfold restQ at h
        simp only [Bool.false_eq_true, if_false] at h
        omega
      · rfl
    subst hs
    have hd54 : 54 ≤ d := by
      rcases Nat.lt_or_ge d 54 with h2 | h2
      · have := Nat.pow_le_pow_right (show 0 < 2 by decide) (show d ≤ 53 by omega)
        omega
      · exact h2
    have hP2 : 2 ^ d = 2 * 2 ^ (d - 1) := by rw [show d = (d - 1) + 1 from by omega, Nat.pow_succ, Nat.mul_comm, Nat.add_sub_cancel]
    have hP3 : 9007199254740992 ≤ 2 ^ (d - 1) := Nat.pow_le_pow_right (show 0 < 2 by decide) (show 53 ≤ d - 1 by omega)
    have hq : m / 2 ^ d = 0 := Nat.div_eq_of_lt (by omega)
    have hr2 : m % 2 ^ d = m := Nat.mod_eq_of_lt (by omega)
    have hRv : restQ true m (2 ^ d) = 2 ^ d - m := by
      unfold restQ
      rw [if_pos rfl, hr2]
    have hQv : floorQ true m (2 ^ d) = 1 := by
      unfold floorQ
      rw [hq, decide_eq_true (by omega)]
      rfl
    rw [hRv] at hR ⊢
    rw [hQv]
    rw [decide_eq_true (show 2 ^ d < 2 * (2 ^ d - m) ∨ (2 ^ d = 2 * (2 ^ d - m) ∧ 1 % 2 = 1) from .inl (by omega))]
    rcases half_far d (2 ^ d - m) hd54 hd2 (by omega) (by omega) with h3 | h3 <;> rw [h3]
    · rfl
    · rw [Bool.or_eq_true]
      exact .inr rfl

/-- to the even one, out of the floor -/
theorem even_floor (s : Bool) (m P : Nat) (hP : 0 < P) (hr : 0 < m % P) :
    evenQ m P = if P < 2 * restQ s m P ∨ (P = 2 * restQ s m P ∧ floorQ s m P % 2 = 1) then (if s then floorQ s m P - 1 else floorQ s m P + 1) else floorQ s m P := by
  have hl : m % P < P := Nat.mod_lt _ hP
  unfold evenQ restQ floorQ
  rw [decide_eq_true (show m % P ≠ 0 by omega)]
  generalize m % P = r at hr hl ⊢
  generalize m / P = q
  cases s
  · simp only [Bool.false_and, Bool.false_eq_true, if_false, Bool.toNat_false, Nat.add_zero]
    by_cases h1 : P < 2 * r
    · simp [h1]
    · by_cases h2 : P = 2 * r
      · by_cases h3 : q % 2 = 1 <;> simp [h2, h3]
      · simp [h1, h2]
  · simp only [Bool.true_and, if_true, Bool.toNat_true, Nat.add_sub_cancel]
    by_cases h1 : P < 2 * r
    · have e1 : ¬ P < 2 * (P - r) := by omega
      have e2 : ¬ P = 2 * (P - r) := by omega
      simp [h1, e1, e2]
    · by_cases h2 : P = 2 * r
      · have e1 : ¬ P < 2 * (P - r) := by omega
        have e2 : P = 2 * (P - r) := by omega
        have e3 : ((q + 1) % 2 = 1) ↔ ¬ q % 2 = 1 := by omega
        by_cases h3 : q % 2 = 1
        · rw [decide_eq_false h1, decide_eq_true h2, decide_eq_true h3, if_neg (by rw [e3]; simp [e1, h3])]
          rfl
        · rw [decide_eq_false h1, decide_eq_true h2, decide_eq_false h3, if_pos (by rw [e3]; exact .inr ⟨e2, h3⟩)]
          rfl
      · have e1 : P < 2 * (P - r) := by omega
        simp [h1, h2, e1]

end LM
end Go.Proofs.YtpaefbojilnnnaaGreatDoor

namespace Go.Proofs.YtpaefbojilnnnaaGreatDoor
open Go Go.RowKit
namespace LM
open Ieee
set_option linter.unusedVariables false

theorem floorQ_small (s : Bool) (m d : Nat) (hm : m < 9007199254740992) (hd : 0 < d) : floorQ s m (2 ^ d) ≤ 4503599627370496 := by
  have h := half_div m d hm hd
  unfold floorQ
  have : (s && decide (m % 2 ^ d ≠ 0)).toNat ≤ 1 := Bool.toNat_le _
  omega

theorem rest_sum (s : Bool) (m d : Nat) (hd2 : d ≤ 1074) (hr : 0 < m % 2 ^ d) :
    sv s m (-(d : Int)) - sg s (floorQ s m (2 ^ d)) * unit = ((restQ s m (2 ^ d) * 2 ^ (-(d : Int) + 1074).toNat : Nat) : Int) := by
  rw [sv_sg, unit_split d hd2]
  have hP : 0 < 2 ^ d := Nat.two_pow_pos d
  have hml : m % 2 ^ d < 2 ^ d := Nat.mod_lt _ hP
  have hdm := Nat.div_add_mod m (2 ^ d)
  unfold floorQ restQ
  rw [decide_eq_true (show m % 2 ^ d ≠ 0 by omega)]
  generalize 2 ^ (-(d : Int) + 1074).toNat = V
  generalize m % 2 ^ d = r at hr hml hdm ⊢
  generalize m / 2 ^ d = q at hdm ⊢
  generalize 2 ^ d = P at hP hml hdm ⊢
  subst hdm
  unfold sg
  cases s
  · simp only [Bool.false_eq_true, if_false, Bool.false_and, Bool.toNat_false, Nat.add_zero]
    rw [Nat.add_mul]
    have e1 : ((q : Nat) : Int) * ((P * V : Nat) : Int) = ((P * q * V : Nat) : Int) := by
      rw [← Int.natCast_mul]
      congr 1
      rw [Nat.mul_comm P q, Nat.mul_assoc]
    rw [e1]
    omega
  · simp only [if_true, Bool.true_and, Bool.toNat_true]
    rw [Nat.add_mul, Nat.sub_mul]
    have e1 : -(((q + 1 : Nat) : Nat) : Int) * ((P * V : Nat) : Int) = -((P * q * V + P * V : Nat) : Int) := by
      rw [Int.neg_mul, ← Int.natCast_mul, Nat.add_mul, Nat.one_mul, Nat.mul_comm P q, Nat.mul_assoc]
    rw [e1]
    have e2 : r * V ≤ P * V := Nat.mul_le_mul_right V (by omega)
    omega

theorem round_sub {s : Bool} {m : Nat} (d : Nat) (h : CanF m (-(d : Int))) (hd : 0 < d) (hr : 0 < m % 2 ^ d) :
    double.sub (wordF s m (-(d : Int))) (double.nearest s (floorQ s m (2 ^ d)) 0) = some (double.nearest false (restQ s m (2 ^ d)) (-(d : Int))) := by
  have hd2 : d ≤ 1074 := by have := h.2.1; omega
  have hq := floorQ_small s m d h.1 hd
  obtain ⟨m', e', hc, hw, hs⟩ := whole_all (floorQ s m (2 ^ d)) (by omega)
  have hsum := rest_sum s m d hd2 hr
  rw [← hs s] at hsum
  rw [hw s, sub_word _ hc]
  have e1 : sv s m (-(d : Int)) + sv (!s) m' e' = ((restQ s m (2 ^ d) * 2 ^ (-(d : Int) + 1074).toNat : Nat) : Int) := by
    rw [sv_not, ← hsum]
    omega
  have hR : 0 < restQ s m (2 ^ d) := by
    have hml : m % 2 ^ d < 2 ^ d := Nat.mod_lt _ (Nat.two_pow_pos d)
    unfold restQ
    split <;> omega
  have hpos : 0 < restQ s m (2 ^ d) * 2 ^ (-(d : Int) + 1074).toNat := Nat.mul_pos hR (Nat.two_pow_pos _)
  rw [add_exact h hc (restQ s m (2 ^ d)) (-(d : Int)) (by omega) (by rw [e1, Int.natAbs_natCast]), e1]
  generalize restQ s m (2 ^ d) * 2 ^ (-(d : Int) + 1074).toNat = X at hpos
  rw [if_neg (by omega), decide_eq_false (by omega)]

theorem round_add (s : Bool) (q : Nat) (h0 : s = true → 0 < q) (hq : q ≤ 4503599627370496) :
    ∃ t, double.add (double.nearest s q 0) 4607182418800017408 = some (double.nearest t (if s then q - 1 else q + 1) 0) := by
  obtain ⟨m', e', hc, hw, hs⟩ := whole_all q (by omega)
  have h1 : CanF 4503599627370496 (-52) := by unfold CanF; decide
  have hv := sv_whole false 1 52 (by decide)
  rw [show (1 * 2 ^ 52 : Nat) = 4503599627370496 from rfl, show (-((52 : Nat) : Int)) = -52 from rfl] at hv
  rw [hw s, show 4607182418800017408 = wordF false 4503599627370496 (-52) from rfl]
  have hu := unit_pow
  have hup := unit_pos
  have e1 : (sv s m' e' + sv false 4503599627370496 (-52)).natAbs = (if s then q - 1 else q + 1) * 2 ^ ((0 : Int) + 1074).toNat := by
    rw [hs s, hv, ← Int.add_mul, Int.natAbs_mul, hu, Int.natAbs_natCast]
    congr 1
    unfold sg
    cases s
    · simp only [Bool.false_eq_true, if_false]
      omega
    · have := h0 rfl
      simp only [Bool.false_eq_true, if_false, if_true]
      omega
  rw [add_exact hc h1 _ 0 (by decide) e1]
  exact ⟨_, rfl⟩

theorem round_ne {s : Bool} {m : Nat} (d : Nat) (h : CanF m (-(d : Int))) (hd : 0 < d) (hr : 0 < m % 2 ^ d) :
    (FloatKind.f64.format.order (double.nearest s (floorQ s m (2 ^ d)) 0) (wordF s m (-(d : Int))) == some .eq) = false := by
  have hd2 : d ≤ 1074 := by have := h.2.1; omega
  have hq := floorQ_small s m d h.1 hd
  obtain ⟨m', e', hc, hw, hs⟩ := whole_all (floorQ s m (2 ^ d)) (by omega)
  have hsum := rest_sum s m d hd2 hr
  rw [← hs s] at hsum
  have h1 := order_num (s := s) (t := s) hc h
  show (double.order _ _ == some .eq) = false
  rw [hw s, h1, cmp_eq]
  have hR : 0 < restQ s m (2 ^ d) := by
    have hml : m % 2 ^ d < 2 ^ d := Nat.mod_lt _ (Nat.two_pow_pos d)
    unfold restQ
    split <;> omega
  have hpos : 0 < restQ s m (2 ^ d) * 2 ^ (-(d : Int) + 1074).toNat := Nat.mul_pos hR (Nat.two_pow_pos _)
  exact decide_eq_false (by omega)

theorem copysign_whole {s : Bool} {n : Nat} {j : Int} (t : Bool) (q : Nat) (hq : q < 9007199254740992) (k : CanF n j) (w : World) :
    Calls Tryz.prog 12 #[.float .f64 (double.nearest t q 0), .float .f64 (wordF s n j)] w fun r w' => r = .returned (.float .f64 (double.nearest s q 0)) ∧ w = w' := by
  obtain ⟨m', e', hc, hw, hs⟩ := whole_all q hq
  rw [hw t, hw s]
  exact copysign_can hc k w

set_option maxRecDepth 100000 in
set_option maxHeartbeats 2000000 in
theorem round_raw (b L D U res : Nat) (g q p : Bool) (w : World) (h1 : (FloatKind.f64.format.order b b != some .eq) = false) (h2 : (FloatKind.f64.format.order L b == some .eq) = false)
    (hF : ∀ W, Calls Tryz.prog 66 #[.float .f64 b] W fun r w' => r = .returned (.float .f64 L) ∧ W = w')
    (hI : ∀ W, Calls Tryz.prog 57 #[.float .f64 b, .int .i64 0] W fun r w' => r = .returned (.bool false) ∧ W = w')
    (hs : double.sub b L = some D) (hg : (FloatKind.f64.format.order D 4602678819172646912 == some .gt) = g) (hq : (FloatKind.f64.format.order D 4602678819172646912 == some .eq) = q)
    (hM : ∀ W, Calls Tryz.prog 67 #[.float .f64 L, .float .f64 4611686018427387904] W fun r w' => (∃ R, r = .returned (.float .f64 R) ∧ (FloatKind.f64.format.order R 0 != some .eq) = p) ∧ ∃ k, w' = W.drewN k)
    (ha : double.add L 4607182418800017408 = some U)
    (hC : ∀ W, Calls Tryz.prog 12 #[.float .f64 (if g || (q && p) then U else L), .float .f64 b] W fun r w' => r = .returned (.float .f64 res) ∧ W = w') :
    Calls Tryz.prog 21 #[.float .f64 b] w fun r w' => r = .returned (.float .f64 res) ∧ ∃ k, w' = w.drewN k := by
  have o1 : ∀ t W, (binOp .sub t (.float .f64 b) (.float .f64 L)).run Tryz.prog W = .ok (.float .f64 D) W := fun t W => run_float_arith W .sub t .f64 _ _ _ hs
  have o2 : ∀ t W, (binOp .add t (.float .f64 L) (.float .f64 4607182418800017408)).run Tryz.prog W = .ok (.float .f64 U) W := fun t W => run_float_arith W .add t .f64 _ _ _ ha
  have F1 := Lib.hid hF
  have I1 := Lib.hid hI
  have M1 := Lib.hid hM
  clear hF hI hM hs ha
  cases g <;> cases q <;> cases p <;> simp only [Bool.false_or, Bool.true_or, Bool.false_and, Bool.and_false, Bool.true_and, Bool.false_eq_true, if_false, if_true] at hC <;> have C1 := Lib.hid hC <;> clear hC
  all_goals
    go_enter Tryz.func21, Tryz.ntmps21
    go_wp2_with (fail)
    refine (F1.out _).mono ?_
    rintro e w' ⟨rfl, rfl⟩
    go_wp2_with (fail)
    refine (I1.out _).mono ?_
    rintro e w' ⟨rfl, rfl⟩
    go_wp2_with (fail)
  all_goals first
    | (refine (C1.out _).mono ?_
       rintro e w' ⟨rfl, rfl⟩
       go_wp2
       go_ret
       exact ⟨rfl, 0, rfl⟩)
    | (refine (M1.out _).mono ?_
       rintro e w' ⟨⟨R, rfl, hR⟩, k, rfl⟩
       go_wp2_with (fail)
       refine (C1.out _).mono ?_
       rintro e w' ⟨rfl, rfl⟩
       go_wp2
       go_ret
       exact ⟨rfl, k, rfl⟩)

set_option maxHeartbeats 1000000 in
theorem round_eq (b L : Nat) (w : World) (h1 : (FloatKind.f64.format.order b b != some .eq) = false) (h2 : (FloatKind.f64.format.order L b == some .eq) = true)
    (hF : ∀ W, Calls Tryz.prog 66 #[.float .f64 b] W fun r w' => r = .returned (.float .f64 L) ∧ W = w') :
    Calls Tryz.prog 21 #[.float .f64 b] w fun r w' => r = .returned (.float .f64 b) ∧ ∃ k, w' = w.drewN k := by
  have F1 := Lib.hid hF
  clear hF
  go_enter Tryz.func21, Tryz.ntmps21
  go_wp2_with (fail)
  refine (F1.out _).mono ?_
  rintro e w' ⟨rfl, rfl⟩
  go_wp2
  go_ret
  exact ⟨rfl, 0, rfl⟩
set_option maxHeartbeats 1000000 in
theorem round_nan (b : Nat) (w : World) (h1 : (FloatKind.f64.format.order b b != some .eq) = true)
    (hF : ∀ W, Calls Tryz.prog 66 #[.float .f64 b] W fun r w' => (∃ L, r = .returned (.float .f64 L)) ∧ ∃ k, w' = W.drewN k) :
    Calls Tryz.prog 21 #[.float .f64 b] w fun r w' => r = .returned (.float .f64 b) ∧ ∃ k, w' = w.drewN k := by
  have F1 := Lib.hid hF
  clear hF
  go_enter Tryz.func21, Tryz.ntmps21
  go_wp2_with (fail)
  refine (F1.out _).mono ?_
  rintro e w' ⟨⟨L, rfl⟩, k, rfl⟩
  go_wp2
  go_ret
  exact ⟨rfl, k, rfl⟩

theorem integral_inf (P : Program) (W : World) (nm : String) (way : Toward) (x : Nat) (hx : x < 18446744073709551616) (hn : x % 9223372036854775808 = 9218868437227405312) :
    (Extern.MathFloor.toIntegral nm way #[.float .f64 x]).run P W = .ok (.float .f64 x) W := by
  have hd : FloatKind.f64.decode x = .infinity (x / 9223372036854775808 % 2 == 1) := read_inf x hn
  have hw : FloatKind.f64.encode (.infinity (x / 9223372036854775808 % 2 == 1)) = x := by
    show double.word _ double.infRung = x
    rw [d_inf, word_f]
    rcases (show x / 9223372036854775808 = 0 ∨ x / 9223372036854775808 = 1 by omega) with h | h <;> rw [h] <;> simp <;> omega
  generalize (x / 9223372036854775808 % 2 == 1) = s at hd hw
  show (Extern.MathFloor.toIntegral.match_1 (fun _ => Sem Value) (FloatKind.f64.decode x) _ _).run P W = _
  rw [hd]
  show (pure (Value.float .f64 (FloatKind.f64.encode ((Datum.infinity s).integral way))) : Sem Value).run P W = _
  rw [show (Datum.infinity s).integral way = .infinity s from rfl, hw, Sem.run_pure]

theorem run_even (x y k : Nat) (W : World) (h : (Extern.MathFloor.toIntegral "math.RoundToEven" .even #[.float .f64 x]).run Tryz.prog W = .ok (.float .f64 y) (W.drewN k)) :
    (callFunc 65 #[.float .f64 x]).run Tryz.prog W = .ok (.value (.float .f64 y)) (W.drewN k) := by
  rw [run_callFunc_extern Tryz.func65 (by kernel_rfl) (by kernel_rfl) (e := Extern.MathFloor.toIntegral "math.RoundToEven" .even) (by kernel_rfl) (by kernel_rfl)]
  simp only [h]
  rfl
theorem run_down (x y k : Nat) (W : World) (h : (Extern.MathFloor.toIntegral "math.archFloor" .down #[.float .f64 x]).run Tryz.prog W = .ok (.float .f64 y) (W.drewN k)) :
    (callFunc 129 #[.float .f64 x]).run Tryz.prog W = .ok (.value (.float .f64 y)) (W.drewN k) := by
  rw [run_callFunc_extern Tryz.func129 (by kernel_rfl) (by kernel_rfl) (e := Extern.MathFloor.toIntegral "math.archFloor" .down) (by kernel_rfl) (by kernel_rfl)]
  simp only [h]
  rfl
set_option maxHeartbeats 1000000 in
theorem floround_raw (x y k : Nat) (w : World) (h : (callFunc 65 #[.float .f64 x]).run Tryz.prog w = .ok (.value (.float .f64 y)) (w.drewN k)) :
    Calls Tryz.prog 20 #[.float .f64 x] w fun r w' => r = .returned (.float .f64 y) ∧ w' = w.drewN k := by
  go_enter Tryz.func20, Tryz.ntmps20
  go_wp2
  go_ret
  exact ⟨rfl, rfl⟩
set_option maxRecDepth 100000 in
set_option maxHeartbeats 1000000 in
theorem floor_raw (x y k : Nat) (w : World) (h : (callFunc 129 #[.float .f64 x]).run Tryz.prog w = .ok (.value (.float .f64 y)) (w.drewN k)) :
    Calls Tryz.prog 66 #[.float .f64 x] w fun r w' => r = .returned (.float .f64 y) ∧ w' = w.drewN k := by
  go_enter Tryz.func66, Tryz.ntmps66
  go_wp2
  go_ret
  exact ⟨rfl, rfl⟩

end LM
end Go.Proofs.YtpaefbojilnnnaaGreatDoor

namespace Go.Proofs.YtpaefbojilnnnaaGreatDoor
open Go Go.RowKit
namespace LM
open Ieee
set_option linter.unusedVariables false

/-- both roundings of a number -/
theorem round_num {s : Bool} {m : Nat} {e : Int} (h : CanF m e) : ∃ y, y < 18446744073709551616 ∧ (∀ W, Calls Tryz.prog 20 #[.float .f64 (wordF s m e)] W fun r w' => r = .returned (.float .f64 y) ∧ ∃ k, w' = W.drewN k) ∧
    ∀ W, Calls Tryz.prog 21 #[.float .f64 (wordF s m e)] W fun r w' => r = .returned (.float .f64 y) ∧ ∃ k, w' = W.drewN k := by
  have hF := fun W => floor_can (s := s) h W
  have hE : ∀ W, Calls Tryz.prog 20 #[.float .f64 (wordF s m e)] W fun r w' => r = .returned (.float .f64 (double.write ((Datum.number s m e).integral .even))) ∧ ∃ k, w' = W.drewN k := by
    intro W
    have h1 := run_even (wordF s m e) (double.write ((Datum.number s m e).integral .even)) 0 W (toIntegral_num Tryz.prog W "math.RoundToEven" .even (wordF s m e) (read_word h))
    refine (floround_raw _ _ 0 W h1).mono ?_
    rintro r w' ⟨rfl, rfl⟩
    exact ⟨rfl, 0, rfl⟩
  have same : double.write ((Datum.number s m e).integral .even) = wordF s m e → double.write ((Datum.number s m e).integral .down) = wordF s m e → ∃ y, y < 18446744073709551616 ∧ (∀ W, Calls Tryz.prog 20 #[.float .f64 (wordF s m e)] W fun r w' => r = .returned (.float .f64 y) ∧ ∃ k, w' = W.drewN k) ∧
      ∀ W, Calls Tryz.prog 21 #[.float .f64 (wordF s m e)] W fun r w' => r = .returned (.float .f64 y) ∧ ∃ k, w' = W.drewN k := by
    intro e1 e2
    rw [e1] at hE
    rw [e2] at hF
    refine ⟨_, can_lt h, hE, fun W => round_eq _ _ W (order_ne h) ?_ hF⟩
    have h3 := order_num (s := s) (t := s) h h
    show (double.order _ _ == some .eq) = true
    rw [h3, cmp_eq]
    exact decide_eq_true rfl
  by_cases he : 0 ≤ e
  · have i1 := integral_up .even (s := s) h he
    have i2 := integral_up .down (s := s) h he
    rw [read_word h] at i1 i2
    exact same i1 i2
  · obtain ⟨d, hd⟩ : ∃ d : Nat, e = -(d : Int) := ⟨(-e).toNat, by omega⟩
    subst hd
    have hd1 : 0 < d := by omega
    have hd2 : d ≤ 1074 := by have := h.2.1; omega
    have i1 := even_down (s := s) h (by omega)
    have i2 := integral_down .down (s := s) h (by omega)
    have hmb : (moreB Ieee.Toward.down s (m / 2 ^ d) (m % 2 ^ d) (2 ^ d)) = (s && decide (m % 2 ^ d ≠ 0)) := by
      have hb1 : (m % 2 ^ d != 0) = decide (m % 2 ^ d ≠ 0) := by rw [Bool.eq_iff_iff, bne_iff_ne, decide_eq_true_iff]
      rw [← hb1]
      rfl
    rw [read_word h, show (-(-(d : Int))).toNat = d from by omega, hmb, show m / 2 ^ d + (s && decide (m % 2 ^ d ≠ 0)).toNat = floorQ s m (2 ^ d) from rfl] at i2
    rw [show (-(-(d : Int))).toNat = d from by omega] at i1
    rcases Nat.eq_zero_or_pos (m % 2 ^ d) with hr | hr
    · have hm : m / 2 ^ d * 2 ^ d = m := by
        have := Nat.div_add_mod m (2 ^ d)
        rw [Nat.mul_comm]
        omega
      have hw : double.nearest s (m / 2 ^ d) 0 = wordF s m (-(d : Int)) := by
        have h3 := nearest_scale s (m / 2 ^ d) d 0
        rw [hm, show (0 : Int) - (d : Int) = -(d : Int) from by omega] at h3
        rw [← h3, nearest_can h]
      have hP : 0 < 2 ^ d := Nat.two_pow_pos d
      refine same (i1.trans ?_) (i2.trans ?_)
      · rw [← hw]
        congr 1
        unfold evenQ
        rw [hr, decide_eq_false (by omega), decide_eq_false (by omega)]
        rfl
      · rw [← hw]
        congr 1
        unfold floorQ
        rw [hr]
        simp
    · rw [i1] at hE
      rw [i2] at hF
      have hq := floorQ_small s m d h.1 hd1
      have hq0 : s = true → 0 < floorQ s m (2 ^ d) := by
        intro hs
        unfold floorQ
        rw [hs, decide_eq_true (show m % 2 ^ d ≠ 0 by omega)]
        exact Nat.succ_pos _
      obtain ⟨t, ha⟩ := round_add s _ hq0 hq
      have hh := rest_half s m d h.1 hd1 hd2 hr
      have hev := even_floor s m (2 ^ d) (Nat.two_pow_pos d) hr
      obtain ⟨g, hg⟩ : ∃ g, (FloatKind.f64.format.order (double.nearest false (restQ s m (2 ^ d)) (-(d : Int))) 4602678819172646912 == some .gt) = g := ⟨_, rfl⟩
      obtain ⟨q, hqq⟩ : ∃ q, (FloatKind.f64.format.order (double.nearest false (restQ s m (2 ^ d)) (-(d : Int))) 4602678819172646912 == some .eq) = q := ⟨_, rfl⟩
      rw [hg, hqq] at hh
      have hN : (if s then floorQ s m (2 ^ d) - 1 else floorQ s m (2 ^ d) + 1) < 9007199254740992 := by split <;> omega
      have hyl : double.nearest s (evenQ m (2 ^ d)) 0 < 18446744073709551616 := by
        have hel : evenQ m (2 ^ d) < 9007199254740992 := by
          rw [hev]
          split
          · exact hN
          · omega
        obtain ⟨m2, e2, hc2, hw2, -⟩ := whole_all _ hel
        rw [hw2 s]
        exact can_lt hc2
      refine ⟨_, hyl, hE, fun W => ?_⟩
      refine round_raw _ _ _ _ _ g q (decide (floorQ s m (2 ^ d) % 2 = 1)) W (order_ne h) (round_ne d h hd1 hr) hF (fun W => isInf_any _ W false (can_lt h) (can_inf h)) (round_sub d h hd1 hr) hg hqq (fun W => mod_two s _ hq0 (by omega) W) ha (fun W => ?_)
      rw [hh, hev]
      by_cases hT : 2 ^ d < 2 * restQ s m (2 ^ d) ∨ (2 ^ d = 2 * restQ s m (2 ^ d) ∧ floorQ s m (2 ^ d) % 2 = 1)
      · rw [decide_eq_true hT, if_pos rfl, if_pos hT]
        exact copysign_whole t _ hN h W
      · rw [decide_eq_false hT, if_neg (by decide), if_neg hT]
        exact copysign_whole s _ (by omega) h W

/-- both roundings of any word -/
theorem rounding_any (x : Nat) (hx : x < 18446744073709551616) (w : World) : Calls Tryz.prog 20 #[.float .f64 x] w fun r w' => ∃ y, r = .returned (.float .f64 y) ∧ y < 18446744073709551616 ∧ (∃ k, w' = w.drewN k) ∧
    ∀ W, Calls Tryz.prog 21 #[.float .f64 x] W fun r w' => (∃ z, r = .returned (.float .f64 z) ∧ z < 18446744073709551616 ∧ (canW y == canW z) = true) ∧ ∃ k, w' = W.drewN k := by
  rcases Nat.lt_trichotomy (x % 9223372036854775808) 9218868437227405312 with h | h | h
  · obtain ⟨s, m, e, hc, rfl⟩ := word_of x hx h
    obtain ⟨y, hy, h1, h2⟩ := round_num (s := s) hc
    refine (h1 w).mono ?_
    rintro r w' ⟨rfl, hk⟩
    refine ⟨y, rfl, hy, hk, fun W => (h2 W).mono ?_⟩
    rintro r w' ⟨rfl, hk⟩
    exact ⟨⟨y, rfl, hy, by rw [beq_iff_eq]⟩, hk⟩
  · have hn : ¬ nanW x := by unfold nanW; omega
    have ho := order_self x hx
    rw [if_neg hn] at ho
    refine (floround_raw x x 0 w (run_even x x 0 w (integral_inf _ w _ _ x hx h))).mono ?_
    rintro r w' ⟨rfl, rfl⟩
    refine ⟨x, rfl, hx, ⟨0, rfl⟩, fun W => ?_⟩
    refine (round_eq x x W ?_ ?_ fun W => ?_).mono ?_
    · show (double.order x x != some .eq) = false
      rw [ho]
      rfl
    · show (double.order x x == some .eq) = true
      rw [ho]
      rfl
    · refine (floor_raw x x 0 W (run_down x x 0 W (integral_inf _ W _ _ x hx h))).mono ?_
      rintro r w' ⟨rfl, rfl⟩
      exact ⟨rfl, rfl⟩
    · rintro r w' ⟨rfl, hk⟩
      exact ⟨⟨x, rfl, hx, by rw [beq_iff_eq]⟩, hk⟩
  · have hn : nanW x := h
    have ho := order_self x hx
    rw [if_pos hn] at ho
    obtain ⟨y, k, hr, hny, hy⟩ := integral_nan Tryz.prog w "math.RoundToEven" .even x hx hn
    refine (floround_raw x y k w (run_even x y k w hr)).mono ?_
    rintro r w' ⟨rfl, rfl⟩
    refine ⟨y, rfl, hy, ⟨k, rfl⟩, fun W => ?_⟩
    refine (round_nan x W ?_ fun W => ?_).mono ?_
    · show (double.order x x != some .eq) = true
      rw [ho]
      rfl
    · obtain ⟨y2, k2, hr2, -, -⟩ := integral_nan Tryz.prog W "math.archFloor" .down x hx hn
      refine (floor_raw x y2 k2 W (run_down x y2 k2 W hr2)).mono ?_
      rintro r w' ⟨rfl, rfl⟩
      exact ⟨⟨y2, rfl⟩, k2, rfl⟩
    · rintro r w' ⟨rfl, hk⟩
      refine ⟨⟨x, rfl, hx, ?_⟩, hk⟩
      unfold canW
      rw [if_pos hny, if_pos hn]
      exact beq_self_eq_true _

set_option maxRecDepth 100000 in
set_option maxHeartbeats 2000000 in
theorem rounds_flo (a : Nat) (w : World) (ha : a < 18446744073709551616) (hv : FV w) :
    Calls Tryz.prog 4 #[.int .u64 (a : Int)] w fun e w' => e = .returned (.bool true) ∧ Below w.heap.size w w' := by
  have f1 := run_mfrom a
  have AL := Lib.hid (falive_any w hv)
  have R1 := Lib.hid (rounding_any a ha)
  have S2 := Lib.hid fun a b W ha hb => rsame_flo a b W ha hb
  clear hv
  go_enter Tryz.func4, Tryz.ntmps4
  go_wp2_with (fail)
  refine AL.out.mono ?_
  rintro e w1 ⟨rfl, hb1⟩
  have HB1 := Lib.hid hb1
  clear hb1
  go_wp2_with (fail)
  refine (R1.out _).mono ?_
  rintro e w' ⟨y, rfl, hy, ⟨k, rfl⟩, R2⟩
  have HR2 := Lib.hid R2
  have HY := Lib.hid hy
  clear R2 hy
  go_wp2_with (fail)
  refine (HR2.out _).mono ?_
  rintro e w' ⟨⟨z, rfl, hz, hyz⟩, k2, rfl⟩
  have HZ := Lib.hid hz
  have hs := fun W => S2.out y z W HY.out hz
  rw [hyz] at hs
  have HS := Lib.hid hs
  clear hz hyz hs
  go_wp2_with (fail)
  refine (HS.out _).mono ?_
  rintro e w' ⟨rfl, rfl⟩
  go_wp2
  go_ret
  exact ⟨rfl, below_drewN HB1.out _⟩

end LM
end Go.Proofs.YtpaefbojilnnnaaGreatDoor
