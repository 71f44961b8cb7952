/- The walk of the statement FloNear. -/
import Derived.Test.YtpaefbojilnnnaaGreatDoorJ59
import Derived.Test.YtpaefbojilnnnaaGreatDoorJ45
import Derived.Test.YtpaefbojilnnnaaGreatDoorJ03
import Derived.Lib.ItoaNum
import Derived.Test.YtpaefbojilnnnaaGreatDoorJ46
import Derived.Test.YtpaefbojilnnnaaGreatDoorJ18
import Derived.Test.YtpaefbojilnnnaaGreatDoorJ37
import Derived.Deep.RegionHeld3
namespace Go.Proofs.YtpaefbojilnnnaaGreatDoor
open Go Go.RowKit
namespace LM
open Ieee
set_option linter.unusedVariables false

/-- the word behind a number's -/
theorem word_succ (s : Bool) {m : Nat} {e : Int} (h : CanF m e) (he : e ≤ 970) : ∃ m' e', CanF m' e' ∧ wordF s m e + 1 = wordF s m' e' ∧ m' * 2 ^ (e' + 1074).toNat = (m + 1) * 2 ^ (e + 1074).toNat ∧ 0 < m' := by
  obtain ⟨h1, h2, h3, h4⟩ := h
  by_cases hm : m + 1 < 9007199254740992
  · refine ⟨m + 1, e, ⟨hm, h2, h3, ?_⟩, ?_, rfl, by omega⟩
    · rcases h4 with h4 | h4
      · exact .inl (by omega)
      · exact .inr h4
    · unfold wordF
      omega
  · obtain rfl : m = 9007199254740991 := by omega
    refine ⟨4503599627370496, e + 1, ⟨by decide, by omega, by omega, .inl (by decide)⟩, ?_, ?_, by decide⟩
    · unfold wordF
      rw [show (e + 1 + 1074).toNat = (e + 1074).toNat + 1 from by omega]
      omega
    · rw [show (e + 1 + 1074).toNat = (e + 1074).toNat + 1 from by omega, Nat.pow_succ]
      omega

theorem top_word (x : Nat) : x * 4503599627370496 + 9007199254740992 = 0 + ((x + 1) * 4503599627370496 + 4503599627370496) := by omega
theorem two_pull (a c X : Nat) (h : a = c) : 2 * (c * X) = a * (X * 2) := by
  subst h
  rw [Nat.mul_comm X 2, Nat.mul_left_comm]
theorem two_push (a b P T : Nat) (h : a * 2 = b) (k : b * P ≤ T) : a * (P * 2) ≤ T := by
  subst h
  rw [Nat.mul_comm P 2, ← Nat.mul_assoc]
  exact k

/-- the word before it -/
theorem word_pred (s : Bool) {m : Nat} {e : Int} (h : CanF m e) (hm0 : 0 < m) : ∃ m' e', CanF m' e' ∧ wordF s m e - 1 = wordF s m' e' ∧ 0 < wordF s m e ∧
    2 * (m' * 2 ^ (e' + 1074).toNat) = (if 4503599627370496 < m ∨ e = -1074 then 2 * m - 2 else 2 * m - 1) * 2 ^ (e + 1074).toNat := by
  obtain ⟨h1, h2, h3, h4⟩ := h
  by_cases hm : 4503599627370496 < m ∨ e = -1074
  · refine ⟨m - 1, e, ⟨by omega, h2, h3, ?_⟩, ?_, ?_, ?_⟩
    · rcases hm with h5 | h5
      · exact .inl (by omega)
      · exact .inr h5
    · unfold wordF
      omega
    · unfold wordF
      omega
    · rw [if_pos hm, show 2 * m - 2 = 2 * (m - 1) from by omega, Nat.mul_assoc]
  · obtain ⟨hm1, hm2⟩ : m = 4503599627370496 ∧ e ≠ -1074 := by omega
    subst hm1
    refine ⟨9007199254740991, e - 1, ⟨by decide, by omega, by omega, .inl (by decide)⟩, ?_, ?_, ?_⟩
    · unfold wordF
      rw [show (e + 1074).toNat = (e - 1 + 1074).toNat + 1 from by omega]
      omega
    · unfold wordF
      exact Nat.add_pos_right _ (Nat.add_pos_right _ (by decide))
    · rw [if_neg hm, show (e + 1074).toNat = (e - 1 + 1074).toNat + 1 from by omega, Nat.pow_succ]
      exact two_pull _ _ _ (by decide)

theorem near_arith (P q r t K : Nat) (hP : 2 ≤ P) (hdm : P * q + r = t) (hl : r < P) (hK : K = q ∧ 2 * r ≤ P ∨ K = q + 1 ∧ P ≤ 2 * r) (hK1 : K = 4503599627370496 → q = 4503599627370496) :
    t + 1 ≤ (K + 1) * P ∧ (2 * K - 2) * P ≤ 2 * (t - 1) ∧ (K = 4503599627370496 → (2 * K - 1) * P ≤ 2 * (t - 1)) := by
  have c1 : (K + 1) * P = P * K + P := by rw [Nat.mul_comm, Nat.mul_add, Nat.mul_one]
  have c2 : (2 * K - 2) * P = 2 * (P * K) - 2 * P := by rw [Nat.mul_comm, Nat.mul_sub, Nat.mul_left_comm, Nat.mul_comm P 2]
  have c3 : (2 * K - 1) * P = 2 * (P * K) - P := by rw [Nat.mul_comm, Nat.mul_sub, Nat.mul_one, Nat.mul_left_comm]
  rw [c1, c2, c3]
  rcases hK with ⟨rfl, h5⟩ | ⟨rfl, h5⟩
  · generalize P * K = X at *
    exact ⟨by omega, by omega, fun _ => by omega⟩
  · rw [Nat.mul_add, Nat.mul_one]
    generalize P * q = X at *
    exact ⟨by omega, by omega, fun h6 => by have := hK1 h6; omega⟩

/-- the word of a whole number of 54 to 64 digits -/
theorem nearest_mid (t : Nat) (h1 : 9007199254740992 ≤ t) (h2 : t < 18446744073709551616) : ∃ (m d : Nat), CanF m d ∧ 4503599627370496 ≤ m ∧ d ≤ 12 ∧ 1 ≤ d ∧ double.nearest false t 0 = wordF false m d ∧
    t + 1 ≤ (m + 1) * 2 ^ d ∧ (if 4503599627370496 < m then 2 * m - 2 else 2 * m - 1) * 2 ^ d ≤ 2 * (t - 1) := by
  have hz : t ≠ 0 := by omega
  obtain ⟨l, hl⟩ : ∃ l, t.log2 = l := ⟨_, rfl⟩
  have l1 : 2 ^ l ≤ t := hl ▸ Nat.log2_self_le hz
  have l2 : t < 2 ^ (l + 1) := hl ▸ Nat.lt_log2_self
  have hl53 : 53 ≤ l := by
    rcases Nat.lt_or_ge l 53 with h | h
    · have := Nat.pow_le_pow_right (show 0 < 2 by decide) (show l + 1 ≤ 53 by omega)
      omega
    · exact h
  have hl63 : l ≤ 63 := by
    rcases Nat.lt_or_ge 63 l with h | h
    · have := Nat.pow_le_pow_right (show 0 < 2 by decide) (show 64 ≤ l by omega)
      omega
    · exact h
  obtain ⟨d, rfl⟩ : ∃ d, l = d + 52 := ⟨l - 52, by omega⟩
  have hG : 0 < 2 ^ d := Nat.two_pow_pos d
  have hG2 : 2 ≤ 2 ^ d := Nat.pow_le_pow_right (show 0 < 2 by decide) (show 1 ≤ d by omega)
  have p1 : 2 ^ (d + 52) = 4503599627370496 * 2 ^ d := by rw [Nat.add_comm, Nat.pow_add]
  have p2 : 2 ^ (d + 52 + 1) = 9007199254740992 * 2 ^ d := by rw [show d + 52 + 1 = 53 + d from by omega, Nat.pow_add]
  have q1 : 4503599627370496 ≤ t / 2 ^ d := by
    rw [Nat.le_div_iff_mul_le hG]
    omega
  have q2 : t / 2 ^ d < 9007199254740992 := by
    rw [Nat.div_lt_iff_lt_mul hG]
    omega
  have hw : ∃ K, K = t / 2 ^ d + (moreB Toward.even false (t / 2 ^ d) (t % 2 ^ d) (2 ^ d)).toNat ∧ double.nearest false t 0 = (d + 1074) * 4503599627370496 + K := by
    unfold Format.nearest
    rw [if_neg hz, hl]
    have hla : max (0 + ((d + 52 : Nat) : Int) - ((double.fractionBits : Nat) : Int)) double.leastPlace = d := by
      have e1 : double.fractionBits = 52 := rfl
      have e2 : double.leastPlace = -1074 := by decide
      rw [e1, e2]
      omega
    dsimp only
    have e2 : double.leastPlace = -1074 := by decide
    rw [hla, show (0 - (d : Int)).toNat = 0 from by omega, Nat.shiftLeft_zero, cut_eq, show ((d : Int) - 0).toNat = d from by omega, e2, d_bin, d_inf, show ((d : Int) - -1074).toNat = d + 1074 from by omega, word_f]
    refine ⟨_, rfl, ?_⟩
    have q3 : (moreB Toward.even false (t / 2 ^ d) (t % 2 ^ d) (2 ^ d)).toNat ≤ 1 := Bool.toNat_le _
    simp only [Bool.false_eq_true, if_false, Nat.zero_add]
    omega
  obtain ⟨K, hK, hw⟩ := hw
  have hdm := Nat.div_add_mod t (2 ^ d)
  have hml := Nat.mod_lt t hG
  have hmo : moreB Toward.even false (t / 2 ^ d) (t % 2 ^ d) (2 ^ d) = (decide (2 ^ d < 2 * (t % 2 ^ d)) || ((2 ^ d == 2 * (t % 2 ^ d)) && (t / 2 ^ d % 2 == 1))) := rfl
  rw [hmo] at hK
  generalize t / 2 ^ d = q at *
  generalize t % 2 ^ d = r at *
  rw [hw]
  have hKG : K = q ∧ 2 * r ≤ 2 ^ d ∨ K = q + 1 ∧ 2 ^ d ≤ 2 * r := by
    by_cases b1 : 2 ^ d < 2 * r
    · rw [decide_eq_true b1] at hK
      exact .inr ⟨hK, by omega⟩
    · rw [decide_eq_false b1, Bool.false_or] at hK
      by_cases b2 : (2 ^ d == 2 * r && q % 2 == 1) = true
      · rw [b2] at hK
        rw [Bool.and_eq_true, beq_iff_eq] at b2
        exact .inr ⟨hK, by omega⟩
      · rw [Bool.not_eq_true] at b2
        rw [b2] at hK
        exact .inl ⟨hK, by omega⟩
  have hB := near_arith (2 ^ d) q r t K hG2 hdm hml hKG (by omega)
  rcases Nat.lt_or_ge K 9007199254740992 with h5 | h5
  · refine ⟨K, d, ⟨h5, by omega, by omega, .inl (by omega)⟩, by omega, by omega, by omega, ?_, hB.1, ?_⟩
    · unfold wordF
      rw [show ((d : Int) + 1074).toNat = d + 1074 from by omega]
      simp
    · split
      · exact hB.2.1
      · exact hB.2.2 (by omega)
  · obtain rfl : K = 9007199254740992 := by omega
    have hp : 2 ^ (d + 1) = 2 ^ d * 2 := Nat.pow_succ 2 d
    refine ⟨4503599627370496, d + 1, ⟨by decide, by omega, by omega, .inl (by decide)⟩, by decide, by omega, by omega, ?_, ?_, ?_⟩
    · unfold wordF
      rw [show (((d + 1 : Nat) : Int) + 1074).toNat = (d + 1074) + 1 from by omega]
      simp only [Bool.false_eq_true, if_false]
      exact top_word _
    · rw [hp]
      have := hB.1
      generalize 2 ^ d = P at this ⊢
      omega
    · rw [hp, if_neg (by decide)]
      exact two_push _ _ _ _ (by decide) hB.2.1

end LM
end Go.Proofs.YtpaefbojilnnnaaGreatDoor

namespace Go.Proofs.YtpaefbojilnnnaaGreatDoor
open Go Go.RowKit
namespace LM
open Ieee
set_option linter.unusedVariables false

set_option maxRecDepth 100000 in
set_option maxHeartbeats 1000000 in
/-- not from nought: the word behind or before -/
theorem next_raw (x y : Nat) (u p : Bool) (r : Nat) (w : World) (hx : x < 18446744073709551616) (hy : y < 18446744073709551616) (nx : ¬ nanW x) (ny : ¬ nanW y)
    (h1 : (FloatKind.f64.format.order x y == some .eq) = false) (h2 : (FloatKind.f64.format.order x 0 == some .eq) = false)
    (h3 : (FloatKind.f64.format.order y x == some .gt) = u) (h4 : (FloatKind.f64.format.order x 0 == some .gt) = p)
    (hr : (r : Int) = if u = p then (x : Int) + 1 else (x : Int) - 1) (hrl : r < 18446744073709551616) :
    Calls Tryz.prog 30 #[.float .f64 x, .float .f64 y] w fun e w' => e = .returned (.float .f64 r) ∧ w = w' := by
  have N1 := Lib.hid fun W => isNaN_any x W hx
  rw [show decide (nanW x) = false from decide_eq_false nx] at N1
  have N2 := Lib.hid fun W => isNaN_any y W hy
  rw [show decide (nanW y) = false from decide_eq_false ny] at N2
  have f1 := run_mbits x
  have f2 := run_mfrom r
  clear nx ny hy
  cases u <;> cases p <;> simp only [if_true, if_false, Bool.true_eq_false, Bool.false_eq_true] at hr
  all_goals
    go_enter Tryz.func30, Tryz.ntmps30
    go_wp2_with (fail)
    refine (N1.out _).mono ?_
    rintro e w' ⟨rfl, rfl⟩
    go_wp2_with (fail)
    refine (N2.out _).mono ?_
    rintro e w' ⟨rfl, rfl⟩
    go_wp2_with (fail)
    rw [← hr, f2]
    go_wp2
    go_ret
    exact ⟨rfl, rfl⟩

end LM
end Go.Proofs.YtpaefbojilnnnaaGreatDoor

namespace Go.Proofs.YtpaefbojilnnnaaGreatDoor
open Go Go.RowKit
namespace LM
open Ieee
set_option linter.unusedVariables false

set_option maxRecDepth 100000 in
set_option maxHeartbeats 2000000 in
theorem highest_raw (g n c a1 a2 a3 z q t0 t1 r3 : Nat) (w : World) (hn : 3 ≤ n) (hn2 : n ≤ 1000) (hc : n ≤ c) (hc2 : c ≤ 9223372036854775807) (l1 : a1 < 4294967296) (l2 : a2 < 4294967296) (l3 : a3 < 4294967296) (hz : z < 32)
    (c1 : w.cell? ⟨g, n - 1, none⟩ = some (.int .u32 (a1 : Int))) (c2 : w.cell? ⟨g, n - 2, none⟩ = some (.int .u32 (a2 : Int))) (c3 : w.cell? ⟨g, n - 3, none⟩ = some (.int .u32 (a3 : Int)))
    (h1 : bits .or .u64 (IntKind.u64.wrap (((a1 : Int) * 4294967296 + (a2 : Int)) * 2 ^ z)) ((a3 : Int) / 2 ^ (32 - z)) = (t0 : Int)) (h2 : IntKind.u32.wrap ((a3 : Int) * 2 ^ z) = (r3 : Int)) (h3 : bits .or .u64 (t0 : Int) 1 = (t1 : Int))
    (hS : Calls Tryz.prog 145 #[.slice (some ⟨g, 0, none⟩) n c] w fun e w' => e = .returned (.tuple #[.int .u64 0, .bool false]) ∧ w = w')
    (hL : ∀ W, Calls Tryz.prog 146 #[.int .u64 ((a1 : Int) * 4294967296 + (a2 : Int))] W fun e w' => e = .returned (.int .i64 (z : Int)) ∧ w' = W) 
    (hT : ∀ k, Calls Tryz.prog 81 #[.slice (some ⟨g, 0, none⟩) (n - 3) c] (w.drewN k) fun e w' => (∃ A cc, e = .returned (.slice A q cc)) ∧ Below w.heap.size w w') :
    Calls Tryz.prog 80 #[.slice (some ⟨g, 0, none⟩) n c] w fun e w' => (∃ t : Nat, e = .returned (.tuple #[.int .u64 (t : Int), .int .i64 (32 * ((n : Int) - 2) - z)]) ∧ (t = t0 ∧ r3 = 0 ∧ q = 0 ∨ t = t1 ∧ (0 < r3 ∨ 0 < q))) ∧ Below w.heap.size w w' := by
  have S1 := Lib.hid hS
  have L1 := Lib.hid hL
  have T1 := Lib.hid hT
  have hoh := or_high l1 l2
  clear hS hL hT
  have hw1 : IntKind.i64.wrap ((n : Int) - 1) = ((n - 1 : Nat) : Int) := by rw [IntWalk.i64_in _ (by omega)]; omega
  have hw2 : IntKind.i64.wrap ((n : Int) - 2) = ((n - 2 : Nat) : Int) := by rw [IntWalk.i64_in _ (by omega)]; omega
  have hw3 : IntKind.i64.wrap ((n : Int) - 3) = ((n - 3 : Nat) : Int) := by rw [IntWalk.i64_in _ (by omega)]; omega
  have hpw : (32 : Int) * ((n - 2 : Nat) : Int) - (z : Int) = 32 * ((n : Int) - 2) - z := by omega
  go_enter Tryz.func80, Tryz.ntmps80
  go_wp2_with (fail)
  refine S1.out.mono ?_
  rintro e w' ⟨rfl, rfl⟩
  go_wp2_with (fail)
  go_quiet (fail)
  go_wp2_with (fail)
  refine (L1.out _).mono ?_
  rintro e w' ⟨rfl, rfl⟩
  go_wp2_with (fail)
  have hw4 : IntKind.i64.wrap (32 - (z : Int)) = ((32 - z : Nat) : Int) := by rw [IntWalk.i64_in _ (by omega)]; omega
  go_quiet (fail)
  go_wp2_with (fail)
  · refine (T1.out _).mono ?_
    rintro e w' ⟨⟨A, cc, rfl⟩, hb⟩
    go_wp2_with (fail)
    · have hq : 0 < q := by assumption
      go_ret2
      exact ⟨⟨t1, rfl, .inr ⟨rfl, .inr hq⟩⟩, hb⟩
    · have hq : ¬ 0 < q := by assumption
      have hr : r3 = 0 := by assumption
      go_ret2
      exact ⟨⟨t0, rfl, .inl ⟨rfl, hr, by omega⟩⟩, hb⟩
  · have hr : ¬ r3 = 0 := by assumption
    go_ret2
    exact ⟨⟨t1, rfl, .inr ⟨rfl, .inl (by omega)⟩⟩, below_drewN (Below.refl _ w) _⟩

end LM
end Go.Proofs.YtpaefbojilnnnaaGreatDoor

namespace Go.Proofs.YtpaefbojilnnnaaGreatDoor
open Go Go.RowKit
namespace LM
open Ieee
set_option linter.unusedVariables false

theorem or_one (t : Nat) : t ||| 1 = if t % 2 = 0 then t + 1 else t := by
  have h1 : t = t / 2 * 2 + t % 2 := by omega
  have h2 : ∀ e, e < 2 → t / 2 * 2 ||| e = t / 2 * 2 + e := fun e he => nat_join 1 _ e (by omega) he
  have h3 : t ||| 1 = (t / 2 * 2 ||| t % 2) ||| 1 := by rw [h2 _ (by omega), ← h1]
  rw [h3, Nat.or_assoc]
  rcases (show t % 2 = 0 ∨ t % 2 = 1 by omega) with h | h <;> rw [h]
  · rw [show 0 ||| 1 = 1 from rfl, h2 1 (by decide), if_pos rfl]
    omega
  · rw [show 1 ||| 1 = 1 from rfl, h2 1 (by decide), if_neg (by decide)]
    omega

/-- the digits that are kept, and what is dropped -/
theorem top_split (T a3 low z N : Nat) (hz : z < 32) (h3 : a3 < 4294967296) (hl : low < N) :
    ∃ R, T * (N * 4294967296) + a3 * N + low = (T * 2 ^ z + a3 / 2 ^ (32 - z)) * (N * 2 ^ (32 - z)) + R ∧ R < N * 2 ^ (32 - z) ∧ (R = 0 ↔ a3 * 2 ^ z % 4294967296 = 0 ∧ low = 0) := by
  have hp : 4294967296 = 2 ^ z * 2 ^ (32 - z) := by rw [← Nat.pow_add, show z + (32 - z) = 32 from by omega]
  have hA : 0 < 2 ^ z := Nat.two_pow_pos z
  have hB : 0 < 2 ^ (32 - z) := Nat.two_pow_pos _
  have hm : a3 * 2 ^ z % 4294967296 = a3 % 2 ^ (32 - z) * 2 ^ z := by
    rw [hp, Nat.mul_comm a3, Nat.mul_mod_mul_left, Nat.mul_comm]
  rw [hm]
  generalize 2 ^ z = A at *
  generalize 2 ^ (32 - z) = B at *
  have hd := Nat.div_add_mod a3 B
  have hr := Nat.mod_lt a3 hB
  generalize a3 / B = q at *
  generalize a3 % B = r at *
  refine ⟨r * N + low, ?_, ?_, ?_⟩
  · rw [hp, ← hd]
    have e1 : T * (N * (A * B)) = T * A * (N * B) := by
      rw [Nat.mul_assoc T A, Nat.mul_left_comm A N B]
    have e2 : (B * q + r) * N = q * (N * B) + r * N := by
      rw [Nat.add_mul, Nat.mul_comm B q, Nat.mul_assoc, Nat.mul_comm B N]
    rw [e1, e2, Nat.add_mul]
    omega
  · have h4 : (r + 1) * N ≤ B * N := Nat.mul_le_mul_right N hr
    rw [Nat.add_mul, Nat.one_mul] at h4
    rw [Nat.mul_comm N B]
    omega
  · constructor
    · intro h
      have h5 : r * N = 0 := by omega
      have h6 : low = 0 := by omega
      rcases Nat.mul_eq_zero.1 h5 with h7 | h7
      · exact ⟨by rw [h7, Nat.zero_mul], h6⟩
      · omega
    · rintro ⟨h5, h6⟩
      rcases Nat.mul_eq_zero.1 h5 with h7 | h7
      · rw [h7, h6, Nat.zero_mul]
      · omega

/-- the marked top against the number -/
theorem top_near (x t0 P R t : Nat) (hx : x = t0 * P + R) (hR : R < P) (ht : t = t0 ∧ R = 0 ∨ t = (t0 ||| 1) ∧ R ≠ 0) (h0 : 1 ≤ t0) : (t - 1) * P < x ∧ x < (t + 1) * P := by
  have hP : 0 < P := by omega
  rw [or_one] at ht
  have c1 : (t0 + 1) * P = t0 * P + P := by rw [Nat.add_mul, Nat.one_mul]
  have c2 : (t0 - 1) * P = t0 * P - P := by rw [Nat.sub_mul, Nat.one_mul]
  have c3 : (t0 + 1 + 1) * P = t0 * P + P + P := by rw [Nat.add_mul, Nat.one_mul, c1]
  have c4 : P ≤ t0 * P := by
    have := Nat.mul_le_mul_right P h0
    omega
  rcases ht with ⟨rfl, h⟩ | ⟨h1, h2⟩
  · rw [c1, c2]
    omega
  · split at h1
    · subst h1
      rw [c3, Nat.add_sub_cancel]
      omega
    · subst h1
      rw [c1, c2]
      omega

/-- what the law asks of the word of a number -/
def NearF (a m : Nat) (e : Int) : Prop := CanF m e ∧ e ≤ 970 ∧ (m = 0 → a = 0) ∧ (a : Int) * unit < (((m + 1) * 2 ^ (e + 1074).toNat : Nat) : Int) ∧
  (0 < m → (((if 4503599627370496 < m ∨ e = -1074 then 2 * m - 2 else 2 * m - 1) * 2 ^ (e + 1074).toNat : Nat) : Int) < 2 * ((a : Int) * unit)) ∧
  (0 ≤ e ∨ (m = 0 ∧ e = -1074) ∨ ∃ q k : Nat, k ≤ 52 ∧ q < 9007199254740992 ∧ e = -(k : Int) ∧ m = q * 2 ^ k ∧ 4503599627370496 ≤ m)

theorem near_zero : NearF 0 0 (-1074) := by
  refine ⟨by unfold CanF; decide, by decide, fun _ => rfl, ?_, fun h => absurd h (by decide), .inr (.inl ⟨rfl, rfl⟩)⟩
  rw [show (((0 : Nat) : Int) * unit) = 0 from Int.zero_mul _]
  decide
theorem near_small (a : Nat) (h0 : 0 < a) (h1 : a < 9007199254740992) : ∃ m e, double.nearest false a 0 = wordF false m e ∧ NearF a m e ∧ 4503599627370496 ≤ m ∧ e ≤ 0 := by
  obtain ⟨k, hk, hc, hn, he⟩ := whole_norm false a h0 h1
  have hv := sv_whole false a k (by omega)
  have hs : sg false a = (a : Int) := rfl
  rw [hs, sv_false] at hv
  have hV : 0 < 2 ^ (-(k : Int) + 1074).toNat := Nat.two_pow_pos _
  refine ⟨_, _, he, ⟨hc, by omega, fun h => by omega, ?_, fun _ => ?_, .inr (.inr ⟨a, k, hk, h1, rfl, rfl, hn⟩)⟩, hn, by omega⟩
  · rw [← hv, Nat.add_mul, Nat.one_mul]
    omega
  · rw [← hv]
    generalize 2 ^ (-(k : Int) + 1074).toNat = V at hV ⊢
    generalize a * 2 ^ k = m at hn ⊢
    have h2 : (if 4503599627370496 < m ∨ -(k : Int) = -1074 then 2 * m - 2 else 2 * m - 1) < 2 * m := by split <;> omega
    have h3 := Nat.mul_lt_mul_of_pos_right h2 hV
    rw [Nat.mul_assoc] at h3
    omega
theorem near_mid (a t p m d : Nat) (hp : p ≤ 950) (hc : CanF m d) (hm : 4503599627370496 ≤ m) (hd : d ≤ 12) (h1 : t + 1 ≤ (m + 1) * 2 ^ d) (h2 : (if 4503599627370496 < m then 2 * m - 2 else 2 * m - 1) * 2 ^ d ≤ 2 * (t - 1))
    (h3 : (t - 1) * 2 ^ p < a) (h4 : a < (t + 1) * 2 ^ p) : NearF a m ((d + p : Nat) : Int) := by
  have hP : 0 < 2 ^ p := Nat.two_pow_pos p
  have hU : 0 < 2 ^ ((0 : Int) + 1074).toNat := Nat.two_pow_pos _
  have hV : 2 ^ (((d + p : Nat) : Int) + 1074).toNat = 2 ^ d * 2 ^ p * 2 ^ ((0 : Int) + 1074).toNat := by
    rw [show (((d + p : Nat) : Int) + 1074).toNat = d + p + ((0 : Int) + 1074).toNat from by omega, Nat.pow_add, Nat.pow_add]
  refine ⟨⟨hc.1, by omega, by omega, .inl hm⟩, by omega, fun h => by omega, ?_, fun _ => ?_, .inl (by omega)⟩
  · rw [hV, unit_pow, ← Int.natCast_mul, Int.ofNat_lt, ← Nat.mul_assoc, ← Nat.mul_assoc]
    refine Nat.mul_lt_mul_of_pos_right ?_ hU
    exact Nat.lt_of_lt_of_le h4 (Nat.mul_le_mul_right _ h1)
  · have e1 : (if 4503599627370496 < m ∨ ((d + p : Nat) : Int) = -1074 then 2 * m - 2 else 2 * m - 1) = (if 4503599627370496 < m then 2 * m - 2 else 2 * m - 1) := by
      by_cases h5 : 4503599627370496 < m
      · rw [if_pos h5, if_pos (.inl h5)]
      · rw [if_neg h5, if_neg (by omega)]
    rw [e1, hV, unit_pow, ← Int.natCast_mul]
    have e2 : (2 : Int) * ((a * 2 ^ ((0 : Int) + 1074).toNat : Nat) : Int) = ((2 * a * 2 ^ ((0 : Int) + 1074).toNat : Nat) : Int) := by
      rw [Nat.mul_assoc]
      omega
    rw [e2, Int.ofNat_lt, ← Nat.mul_assoc, ← Nat.mul_assoc]
    refine Nat.mul_lt_mul_of_pos_right ?_ hU
    have h6 := Nat.mul_le_mul_right (2 ^ p) h2
    rw [Nat.mul_assoc 2] at h6
    omega

end LM
end Go.Proofs.YtpaefbojilnnnaaGreatDoor

namespace Go.Proofs.YtpaefbojilnnnaaGreatDoor
open Go Go.RowKit
namespace LM
open Ieee
set_option linter.unusedVariables false

def FRes (s : Bool) (Q : Nat → Prop) (e : Ending) : Prop := ∃ F, e = .returned (.float .f64 (if s then Op.negFloat .f64 F else F)) ∧ Q F

set_option maxRecDepth 100000 in
set_option maxHeartbeats 2000000 in
theorem floof_raw (x : Int) (v : Value) (w : World) (hv : IntV w v x) (hx : ∀ r : List Nat, Can r → val r = x.natAbs → r.length ≤ 30) (Pr : Nat → Nat → Prop) (Q : Nat → Prop)
    (hH : ∀ (W : World) (g : Nat) (q : List Nat), Blk W g (U q) → Can q → q.length ≤ 1000 → val q = x.natAbs → Calls Tryz.prog 80 #[.slice (some ⟨g, 0, none⟩) q.length q.length] W fun e w' => (∃ t p : Nat, e = .returned (.tuple #[.int .u64 (t : Int), .int .i64 (p : Int)]) ∧ Pr t p) ∧ Below W.heap.size W w')
    (hL : ∀ t p, Pr t p → t < 18446744073709551616 ∧ ∃ F, (∀ W, Calls Tryz.prog 73 #[.float .f64 (floatOfInt .f64 (t : Int)), .int .i64 (p : Int)] W fun r w' => r = .returned (.float .f64 F) ∧ ∃ k, w' = W.drewN k) ∧ Q F) :
    Calls Tryz.prog 27 #[v] w fun e w' => FRes (decide (x < 0)) Q e ∧ Below w.heap.size w w' := by
  obtain ⟨A, c, r, rfl, h1, h2, h3, h4, h5⟩ := hv
  have hrl : r.length ≤ 1000 := Nat.le_trans (hx r h4 h5) (by decide)
  obtain ⟨s, hs⟩ : ∃ s, decide (x < 0) = s := ⟨_, rfl⟩
  rw [hs]
  have hb0 : Below w.heap.size w (w.alloc (.cells #[.bool s, .slice A r.length c] 38)) := (Below.refl _ w).alloc (Nat.le_refl _) _
  have X0 := Lib.hid (Bx.new w s A r.length c)
  have T1 := Lib.hid (trimUp_any A c r _ (h3.below hb0) h4.1 h1 h2 hrl)
  have HB0 := Lib.hid hb0
  have H5 := Lib.hid h5
  have HH := Lib.hid hH
  have HL := Lib.hid hL
  clear h3 h4 h5 hb0 hH hL hs hx
  go_enter Tryz.func27, Tryz.ntmps27
  go_wp2_with (fail)
  refine T1.out.mono ?_
  rintro e w1 ⟨q, rfl, hB, hq, hqv, hql, hb1⟩
  have X1 := X0.out.below hb1
  have HB1 := HB0.out.trans (hb1.mono HB0.out.size)
  rw [World.size_alloc] at hB
  have HC := Lib.hid (HH.out w1 _ q hB hq (by omega) (hqv.trans H5.out))
  have hsz := hb1.size
  have X1H := Lib.hid X1
  have HB1H := Lib.hid HB1
  clear hB hq hqv hb1 X1 HB1
  go_wp2_with (fail)
  refine HC.out.mono ?_
  rintro e w2 ⟨⟨t, p, rfl, hpr⟩, hb2⟩
  obtain ⟨htl, F, hF, hQ⟩ := HL.out t p hpr
  have htl2 : (t : Int) < 18446744073709551616 := by omega
  have LF := Lib.hid hF
  have HQ := Lib.hid hQ
  have X2 := Lib.hid (X1H.out.below hb2)
  have HB2 := Lib.hid (bel_trans (B := w.heap.size) HB1H.out hb2)
  clear hF hQ htl hpr hb2
  obtain ⟨q0, q1, -, -, ql⟩ := X2.out.facts
  go_wp2_with (fail)
  refine (LF.out _).mono ?_
  rintro e w3 ⟨rfl, k, rfl⟩
  have HFIN : Hid (Below w.heap.size w (w2.drewN k)) := Lib.hid (below_drewN HB2.out k)
  clear HH HL HB0 T1 X0 X1H HB1H HC X2 LF HB2 H5
  obtain ⟨F2, hF2⟩ : ∃ F2, Op.negFloat .f64 F = F2 := ⟨_, rfl⟩
  have hop : ∀ W, (Op.unary .neg (.float .f64 F)).run Tryz.prog W = .ok (.float .f64 F2) W := fun W => hF2 ▸ rfl
  cases s
  · go_wp2_with (fail)
    go_ret
    exact ⟨⟨F, rfl, HQ.out⟩, HFIN.out⟩
  · go_wp2_with (fail)
    go_ret
    exact ⟨⟨F, by rw [← hF2]; rfl, HQ.out⟩, HFIN.out⟩

end LM
end Go.Proofs.YtpaefbojilnnnaaGreatDoor

namespace Go.Proofs.YtpaefbojilnnnaaGreatDoor
open Go Go.RowKit
namespace LM
open Ieee
set_option linter.unusedVariables false

/-- leading zeros by numbers -/
theorem lz_any (T : Nat) (h1 : 4294967296 ≤ T) (h2 : T < 18446744073709551616) : ∃ z : Nat, z < 32 ∧ 9223372036854775808 ≤ T * 2 ^ z ∧ T * 2 ^ z < 18446744073709551616 ∧
    ∀ W, Calls Tryz.prog 146 #[.int .u64 (T : Int)] W fun e w' => e = .returned (.int .i64 (z : Int)) ∧ w' = W := by
  have hb := Lib.bitLenAux_bounds 64 T h2 (by omega)
  obtain ⟨L, hL⟩ : ∃ L, Lib.bitLen T = L := ⟨_, rfl⟩
  have hL2 : Lib.bitLenAux 64 T = L := hL
  rw [hL2] at hb
  obtain ⟨b1, b2, b3⟩ := hb
  have l1 : L ≤ 64 := by
    rcases Nat.lt_or_ge 64 L with h | h
    · have := Nat.pow_le_pow_right (show 0 < 2 by decide) (show 64 ≤ L - 1 by omega)
      omega
    · exact h
  have l2 : 33 ≤ L := by
    rcases Nat.lt_or_ge L 33 with h | h
    · have := Nat.pow_le_pow_right (show 0 < 2 by decide) (show L ≤ 32 by omega)
      omega
    · exact h
  have hp : 0 < 2 ^ (64 - L) := Nat.two_pow_pos _
  refine ⟨64 - L, by omega, ?_, ?_, fun W => ?_⟩
  · have h := Nat.mul_le_mul_right (2 ^ (64 - L)) b2
    rw [← Nat.pow_add, show L - 1 + (64 - L) = 63 from by omega] at h
    exact h
  · have h := Nat.mul_lt_mul_of_pos_right b3 hp
    rw [← Nat.pow_add, show L + (64 - L) = 64 from by omega] at h
    exact h
  · have h := Tryz.bits_LeadingZeros64 (T : Int) W (by omega) (by omega)
    rw [Int.toNat_natCast, hL, show (64 - (L : Int)) = ((64 - L : Nat) : Int) from by omega] at h
    exact h

theorem pow_len (n : Nat) : 4294967296 ^ n = 2 ^ (32 * n) := by rw [Nat.pow_mul]

set_option maxHeartbeats 1000000 in
/-- highest, by numbers -/
theorem highest_near (W : World) (g : Nat) (q : List Nat) (hB : Blk W g (U q)) (hq : Can q) (hql : q.length ≤ 30) (hbig : 18446744073709551616 ≤ val q) :
    Calls Tryz.prog 80 #[.slice (some ⟨g, 0, none⟩) q.length q.length] W fun e w' => (∃ t p : Nat, e = .returned (.tuple #[.int .u64 (t : Int), .int .i64 (p : Int)]) ∧
      9223372036854775808 ≤ t ∧ t < 18446744073709551616 ∧ p ≤ 950 ∧ (t - 1) * 2 ^ p < val q ∧ val q < (t + 1) * 2 ^ p) ∧ Below W.heap.size W w' := by
  have h3 : 2 < q.length := (can_len hq 2).2 (by rw [show 4294967296 ^ 2 = 18446744073709551616 from by decide]; exact hbig)
  obtain ⟨lo, a3, a2, a1, rfl⟩ : ∃ lo a3 a2 a1, q = lo ++ [a3, a2, a1] := by
    have hd : (q.drop (q.length - 3)).length = 3 := by simp; omega
    match hm : q.drop (q.length - 3), hd with
    | [a, b, c], _ => exact ⟨q.take (q.length - 3), a, b, c, by rw [← hm, List.take_append_drop]⟩
  have hLm := hq.1
  have hlo : Lm lo := fun x hx => hLm x (List.mem_append.2 (.inl hx))
  have l3 : a3 < 4294967296 := hLm a3 (by simp)
  have l2 : a2 < 4294967296 := hLm a2 (by simp)
  have l1 : a1 < 4294967296 := hLm a1 (by simp)
  have hlen : (lo ++ [a3, a2, a1]).length = lo.length + 3 := by simp
  have ha1 : 0 < a1 := by
    have h := (can_len hq (lo.length + 2)).1 (by rw [hlen]; omega)
    rcases Nat.eq_zero_or_pos a1 with rfl | h0
    · exfalso
      have h5 : val (lo ++ [a3, a2, 0]) = val (lo ++ [a3, a2]) := by
        rw [val_append, val_append]
        simp [val]
      have h6 := val_lt (xs := lo ++ [a3, a2]) (fun x hx => by
        rcases List.mem_append.1 hx with h7 | h7
        · exact hlo x h7
        · exact hLm x (by simp at h7 ⊢; omega))
      rw [show (lo ++ [a3, a2]).length = lo.length + 2 from by simp] at h6
      omega
    · exact h0
  have hT : ((a1 : Int) * 4294967296 + (a2 : Int)) = ((a1 * 4294967296 + a2 : Nat) : Int) := by omega
  obtain ⟨z, hz, z1, z2, hLZ⟩ := lz_any (a1 * 4294967296 + a2) (by omega) (by omega)
  rw [← hT] at hLZ
  obtain ⟨R, r1, r2, r3⟩ := top_split (a1 * 4294967296 + a2) a3 (val lo) z (4294967296 ^ lo.length) hz l3 (val_lt hlo)
  have hv : val (lo ++ [a3, a2, a1]) = (a1 * 4294967296 + a2) * (4294967296 ^ lo.length * 4294967296) + a3 * 4294967296 ^ lo.length + val lo := by
    rw [val_append]
    simp only [val, Nat.mul_zero, Nat.add_zero]
    generalize 4294967296 ^ lo.length = N
    rw [Nat.mul_add, Nat.mul_comm N a3, Nat.add_mul]
    have e1 : N * (4294967296 * (a2 + 4294967296 * a1)) = a1 * 4294967296 * (N * 4294967296) + a2 * (N * 4294967296) := by
      rw [← Nat.mul_assoc, ← Nat.add_mul, Nat.mul_comm (N * 4294967296), Nat.add_comm a2, Nat.mul_comm 4294967296 a1]
    rw [e1]
    omega
  have hp : 4294967296 ^ lo.length * 2 ^ (32 - z) = 2 ^ (32 * (lo.length + 1) - z) := by
    rw [pow_len, ← Nat.pow_add]
    congr 1
    omega
  rw [hp] at r1 r2
  rw [← hv] at r1
  have ht0 : (a1 * 4294967296 + a2) * 2 ^ z + a3 / 2 ^ (32 - z) < 18446744073709551616 ∧ a3 / 2 ^ (32 - z) < 2 ^ z := by
    have hB : 0 < 2 ^ (32 - z) := Nat.two_pow_pos _
    have h5 : a3 / 2 ^ (32 - z) < 2 ^ z := by
      rw [Nat.div_lt_iff_lt_mul hB, ← Nat.pow_add, show z + (32 - z) = 32 from by omega]
      exact l3
    refine ⟨?_, h5⟩
    have h6 : (a1 * 4294967296 + a2 + 1) * 2 ^ z ≤ 18446744073709551616 := by
      have h7 : 18446744073709551616 = 2 ^ (64 - z) * 2 ^ z := by rw [← Nat.pow_add, show 64 - z + z = 64 from by omega]
      rw [h7] at z2 ⊢
      exact Nat.mul_le_mul_right _ (Nat.lt_of_mul_lt_mul_right z2)
    rw [Nat.add_mul _ 1, Nat.one_mul] at h6
    omega
  have hw1 : IntKind.u64.wrap (((a1 : Int) * 4294967296 + (a2 : Int)) * 2 ^ z) = (((a1 * 4294967296 + a2) * 2 ^ z : Nat) : Int) := by
    rw [hT]
    have e1 : (((a1 * 4294967296 + a2 : Nat) : Int) * 2 ^ z) = (((a1 * 4294967296 + a2) * 2 ^ z : Nat) : Int) := by
      rw [Int.natCast_mul, Int.natCast_pow]
      rfl
    rw [e1]
    generalize (a1 * 4294967296 + a2) * 2 ^ z = X at z2
    show ((X : Int) % 18446744073709551616) = X
    omega
  have hd3 : (a3 : Int) / 2 ^ (32 - z) = ((a3 / 2 ^ (32 - z) : Nat) : Int) := by
    rw [Int.natCast_ediv, Int.natCast_pow]
    rfl
  have h1 : bits .or .u64 (IntKind.u64.wrap (((a1 : Int) * 4294967296 + (a2 : Int)) * 2 ^ z)) ((a3 : Int) / 2 ^ (32 - z)) = (((a1 * 4294967296 + a2) * 2 ^ z + a3 / 2 ^ (32 - z) : Nat) : Int) := by
    rw [hw1, hd3, u64_or_nat _ _ z2 (by omega), nat_join z _ _ (Nat.mul_mod_left _ _) ht0.2]
  have h2 : IntKind.u32.wrap ((a3 : Int) * 2 ^ z) = ((a3 * 2 ^ z % 4294967296 : Nat) : Int) := by
    have e1 : ((a3 : Int) * 2 ^ z) = ((a3 * 2 ^ z : Nat) : Int) := by
      rw [Int.natCast_mul, Int.natCast_pow]
      rfl
    rw [e1]
    generalize a3 * 2 ^ z = X
    show ((X : Int) % 4294967296) = _
    omega
  have h4 := u64_or_nat ((a1 * 4294967296 + a2) * 2 ^ z + a3 / 2 ^ (32 - z)) 1 ht0.1 (by decide)
  have hcell := fun (k : Nat) (v : Nat) (hk : k < lo.length + 3) (hv : (lo ++ [a3, a2, a1])[k]?.getD 0 = v) => show W.cell? ⟨g, k, none⟩ = some (.int .u32 (v : Int)) from by
    have h := blk_mid_cell (w := W) (g := g) (pre := []) (post := []) (zs := (lo ++ [a3, a2, a1]).take k) (xs := lo ++ [a3, a2, a1]) (k := k) (by simpa using hB) (by rw [List.length_take]; omega) (by rw [hlen]; exact hk)
    rw [hv] at h
    simpa using h
  have hs := small_any (some ⟨g, 0, none⟩) (lo ++ [a3, a2, a1]).length (lo ++ [a3, a2, a1]) W (Rd.of_blk (pre := []) (post := []) (by simpa using hB)) hLm (Nat.le_refl _) (by omega)
  have hbig2 := hbig
  have htr : ∀ k, Calls Tryz.prog 81 #[.slice (some ⟨g, 0, none⟩) (lo.length + 3 - 3) (lo.length + 3)] (W.drewN k) fun e w' => (∃ A cc, e = .returned (.slice A (trim lo).length cc)) ∧ Below W.heap.size W w' := by
    intro k
    have h := trimUp_any (some ⟨g, 0, none⟩) (lo.length + 3) lo (W.drewN k) (Rd.of_blk (pre := []) (post := [a3, a2, a1]) (w := W.drewN k) (by have h : Blk (W.drewN k) g (U (lo ++ [a3, a2, a1])) := hB; simpa using h)) hlo (by omega) (by omega) (by omega)
    rw [show lo.length + 3 - 3 = lo.length from by omega]
    refine h.mono ?_
    rintro e w' ⟨r, rfl, -, hr, hrv, -, hb⟩
    have he : r = trim lo := can_ext hr (can_trim hlo) (hrv.trans (val_trim lo).symm)
    rw [he]
    exact ⟨⟨_, _, rfl⟩, (below_drewN (Below.refl _ W) k).trans hb⟩
  rw [hlen] at hs hql ⊢
  have hres := highest_raw g (lo.length + 3) (lo.length + 3) a1 a2 a3 z (trim lo).length _ _ _ W (by omega) (by omega) (Nat.le_refl _) (by omega) l1 l2 l3 hz
    (hcell (lo.length + 3 - 1) a1 (by omega) (by simp)) (hcell (lo.length + 3 - 2) a2 (by omega) (by simp)) (hcell (lo.length + 3 - 3) a3 (by omega) (by simp)) h1 h2 h4
    (hs.mono fun e w' h => by
      refine ⟨?_, h.2⟩
      rcases h.1 with ⟨h5, -⟩ | ⟨-, h5⟩
      · omega
      · exact h5) hLZ htr
  refine hres.mono ?_
  rintro e w' ⟨⟨t, rfl, ht⟩, hb⟩
  have hq0 : (trim lo).length = 0 ↔ val lo = 0 := by
    rw [← val_trim lo]
    constructor
    · intro h
      rw [List.length_eq_zero_iff.1 h]
      rfl
    · intro h
      have := can_len (can_trim hlo) 0
      omega
  have hcase : t = (a1 * 4294967296 + a2) * 2 ^ z + a3 / 2 ^ (32 - z) ∧ R = 0 ∨ t = ((a1 * 4294967296 + a2) * 2 ^ z + a3 / 2 ^ (32 - z) ||| 1) ∧ R ≠ 0 := by
    rcases ht with ⟨h5, h6, h7⟩ | ⟨h5, h6⟩
    · exact .inl ⟨h5, r3.2 ⟨h6, hq0.1 h7⟩⟩
    · refine .inr ⟨h5, fun h7 => ?_⟩
      obtain ⟨h8, h9⟩ := r3.1 h7
      have := hq0.2 h9
      omega
  have hn := top_near _ _ _ R t r1 r2 hcase (Nat.le_trans (Nat.le_trans (by decide : 1 ≤ 9223372036854775808) z1) (Nat.le_add_right _ _))
  rw [or_one] at hcase
  have hend : 9223372036854775808 ≤ t ∧ t < 18446744073709551616 := by
    have e := ht0.1
    clear hn hw1 h1 h4 ht hres hs hcell r1 r2 hv
    generalize (a1 * 4294967296 + a2) * 2 ^ z = X at z1 e hcase
    generalize a3 / 2 ^ (32 - z) = Y at e hcase
    rcases hcase with ⟨h5, -⟩ | ⟨h5, -⟩
    · omega
    · split at h5 <;> omega
  refine ⟨⟨t, 32 * (lo.length + 1) - z, by rw [show ((32 * (lo.length + 1) - z : Nat) : Int) = 32 * (((lo.length + 3 : Nat) : Int) - 2) - (z : Int) from by omega], hend.1, hend.2, by omega, hn.1, hn.2⟩, hb⟩

end LM
end Go.Proofs.YtpaefbojilnnnaaGreatDoor

namespace Go.Proofs.YtpaefbojilnnnaaGreatDoor
open Go Go.RowKit
namespace LM
open Ieee
set_option linter.unusedVariables false

def OfQ (x : Int) (F : Nat) : Prop := ∃ m e, F = wordF false m e ∧ NearF x.natAbs m e

theorem floof_near (x : Int) (v : Value) (w : World) (hv : IntV w v x) (hx : ∀ r : List Nat, Can r → val r = x.natAbs → r.length ≤ 30) :
    Calls Tryz.prog 27 #[v] w fun e w' => FRes (decide (x < 0)) (OfQ x) e ∧ Below w.heap.size w w' := by
  by_cases hbig : 18446744073709551616 ≤ x.natAbs
  · refine floof_raw x v w hv hx (fun t p => 9223372036854775808 ≤ t ∧ t < 18446744073709551616 ∧ p ≤ 950 ∧ (t - 1) * 2 ^ p < x.natAbs ∧ x.natAbs < (t + 1) * 2 ^ p) (OfQ x) (fun W g q hB hq hql hqv => ?_) (fun t p ht => ?_)
    · have h := highest_near W g q hB hq (hx q hq hqv) (by rw [hqv]; exact hbig)
      rw [hqv] at h
      exact h
    · obtain ⟨t1, t2, t3, t4, t5⟩ := ht
      refine ⟨t2, ?_⟩
      obtain ⟨m, d, hc, hm, hd, hd1, hw, n1, n2⟩ := nearest_mid t (by omega) t2
      refine ⟨wordF false m ((d + p : Nat) : Int), fun W => ?_, m, _, rfl, near_mid _ t p m d t3 hc hm hd n1 n2 t4 t5⟩
      have h := ldexp_can (s := false) hc hm (p : Int) (by omega) (by omega) W
      rw [ofInt_nat, hw]
      rw [show (d : Int) + (p : Int) = ((d + p : Nat) : Int) from by omega] at h
      exact h
  · refine floof_raw x v w hv hx (fun t p => t = x.natAbs ∧ p = 0) (OfQ x) (fun W g q hB hq hql hqv => ?_) (fun t p ht => ?_)
    · have h := highest_small x.natAbs (by omega) (some ⟨g, 0, none⟩) q.length q W (Rd.of_blk (pre := []) (post := []) (by simpa using hB)) hq.1 (Nat.le_refl _) (by omega) hqv
      refine h.mono ?_
      rintro e w' ⟨rfl, rfl⟩
      exact ⟨⟨x.natAbs, 0, rfl, rfl, rfl⟩, Below.refl _ _⟩
    · obtain ⟨rfl, rfl⟩ := ht
      refine ⟨by omega, ?_⟩
      rcases Nat.lt_or_ge x.natAbs 9007199254740992 with h1 | h1
      · rcases Nat.eq_zero_or_pos x.natAbs with h0 | h0
        · refine ⟨_, fun W => ldexp_small _ h1 W, 0, -1074, ?_, ?_⟩
          · rw [ofInt_nat, h0, nearest_zero]
          · rw [h0]
            exact near_zero
        · obtain ⟨m, e, hw, hn, -, -⟩ := near_small x.natAbs h0 h1
          exact ⟨_, fun W => ldexp_small _ h1 W, m, e, by rw [ofInt_nat, hw], hn⟩
      · obtain ⟨m, d, hc, hm, hd, hd1, hw, n1, n2⟩ := nearest_mid x.natAbs h1 (by omega)
        refine ⟨wordF false m ((d + 0 : Nat) : Int), fun W => ?_, m, _, rfl, near_mid _ x.natAbs 0 m d (by decide) hc hm hd n1 n2 (by omega) (by omega)⟩
        have h := ldexp_can (s := false) hc hm 0 (by omega) (by omega) W
        rw [ofInt_nat, hw]
        exact h

/-- the two infinities -/
def infW (t : Bool) : Nat := if t then 18442240474082181120 else 9218868437227405312
theorem order_inf {s : Bool} {m : Nat} {e : Int} (h : CanF m e) (t : Bool) : double.order (wordF s m e) (infW t) = some (if t then .gt else .lt) ∧ double.order (infW t) (wordF s m e) = some (if t then .lt else .gt) := by
  unfold Format.order
  have hi : double.read (infW t) = .infinity t := by cases t <;> rfl
  rw [read_word h, hi]
  cases t <;> exact ⟨rfl, rfl⟩

set_option maxRecDepth 100000 in
set_option maxHeartbeats 1000000 in
theorem next_nought (x y r : Nat) (w : World) (hx : x < 18446744073709551616) (hy : y < 18446744073709551616) (nx : ¬ nanW x) (ny : ¬ nanW y)
    (h1 : (FloatKind.f64.format.order x y == some .eq) = false) (h2 : (FloatKind.f64.format.order x 0 == some .eq) = true)
    (hC : ∀ W, Calls Tryz.prog 12 #[.float .f64 1, .float .f64 y] W fun e w' => e = .returned (.float .f64 r) ∧ W = w') :
    Calls Tryz.prog 30 #[.float .f64 x, .float .f64 y] w fun e w' => e = .returned (.float .f64 r) ∧ w = w' := by
  have N1 := Lib.hid fun W => isNaN_any x W hx
  rw [show decide (nanW x) = false from decide_eq_false nx] at N1
  have N2 := Lib.hid fun W => isNaN_any y W hy
  rw [show decide (nanW y) = false from decide_eq_false ny] at N2
  have C1 := Lib.hid hC
  have f1 : ∀ W, (callFunc 18 #[.int .u64 1]).run Tryz.prog W = .ok (.value (.float .f64 1)) W := fun W => run_mfrom 1 W
  clear nx ny hy hC
  go_enter Tryz.func30, Tryz.ntmps30
  go_wp2_with (fail)
  refine (N1.out _).mono ?_
  rintro e w' ⟨rfl, rfl⟩
  go_wp2_with (fail)
  refine (N2.out _).mono ?_
  rintro e w' ⟨rfl, rfl⟩
  go_wp2_with (fail)
  refine (C1.out _).mono ?_
  rintro e w' ⟨rfl, rfl⟩
  go_wp2
  go_ret
  exact ⟨rfl, rfl⟩

theorem next_near (x : Int) (m : Nat) (e : Int) (hN : NearF x.natAbs m e) (t : Bool) : ∃ s' m' e', CanF m' e' ∧ (∀ W, Calls Tryz.prog 30 #[.float .f64 (wordF (decide (x < 0)) m e), .float .f64 (infW t)] W fun r w' => r = .returned (.float .f64 (wordF s' m' e')) ∧ W = w') ∧
    (if t then sv s' m' e' < x * unit else x * unit < sv s' m' e') := by
  obtain ⟨hc, he, hz, hu, hp, -⟩ := hN
  have hup := unit_pos
  have hinf : infW t < 18446744073709551616 := by cases t <;> decide
  have hnan : ¬ nanW (infW t) := by cases t <;> decide
  have o1 : (FloatKind.f64.format.order (wordF (decide (x < 0)) m e) (infW t) == some .eq) = false := by
    show (double.order _ _ == some .eq) = false
    rw [(order_inf hc t).1]
    cases t <;> rfl
  rcases Nat.eq_zero_or_pos m with rfl | hm
  · have hx0 : x = 0 := by have := hz rfl; omega
    have hC : ∀ W, Calls Tryz.prog 12 #[.float .f64 1, .float .f64 (infW t)] W fun e w' => e = .returned (.float .f64 (wordF t 1 (-1074))) ∧ W = w' := by
      intro W
      have b1 := abs_bits 1 (by decide)
      have b2 := u64_and_nat (infW t) 9223372036854775808 hinf (by decide)
      rw [top_bit _ hinf] at b2
      have b3 := u64_or_nat (1 % 9223372036854775808) (infW t / 9223372036854775808 * 9223372036854775808) (by decide) (by omega)
      rw [show 1 % 9223372036854775808 ||| infW t / 9223372036854775808 * 9223372036854775808 = wordF t 1 (-1074) by cases t <;> decide] at b3
      exact copysign_raw _ _ _ _ _ W b1 b2 b3
    refine ⟨t, 1, -1074, by unfold CanF; decide, fun W => next_nought _ _ _ W (can_lt hc) hinf (can_nan hc) hnan o1 ((canf_zero hc).trans rfl) hC, ?_⟩
    rw [hx0, Int.zero_mul]
    cases t <;> decide
  · have o2 : (FloatKind.f64.format.order (wordF (decide (x < 0)) m e) 0 == some .eq) = false := (canf_zero hc).trans (decide_eq_false (by omega))
    have o3 : (FloatKind.f64.format.order (infW t) (wordF (decide (x < 0)) m e) == some .gt) = !t := by
      show (double.order _ _ == some .gt) = _
      rw [(order_inf hc t).2]
      cases t <;> rfl
    have o4 : (FloatKind.f64.format.order (wordF (decide (x < 0)) m e) 0 == some .gt) = !(decide (x < 0)) := by
      have h0 : CanF 0 (-1074) := by unfold CanF; decide
      have h1 := order_num (s := decide (x < 0)) (t := false) hc h0
      rw [show wordF false 0 (-1074) = 0 from rfl] at h1
      show (double.order _ _ == some .gt) = _
      rw [h1, cmp_gt, (sv_zero false 0 (-1074)).2 rfl]
      have hV : 0 < m * 2 ^ (e + 1074).toNat := Nat.mul_pos hm (Nat.two_pow_pos _)
      by_cases h5 : x < 0
      · rw [decide_eq_true h5, sv_true]
        exact decide_eq_false (by omega)
      · rw [decide_eq_false h5, sv_false]
        exact decide_eq_true (by omega)
    by_cases hst : decide (x < 0) = t
    · obtain ⟨m', e', c1, c2, c3, c4⟩ := word_succ (decide (x < 0)) hc he
      refine ⟨decide (x < 0), m', e', c1, fun W => ?_, ?_⟩
      · rw [← c2]
        exact next_raw _ _ (!t) (!(decide (x < 0))) _ W (can_lt hc) hinf (can_nan hc) hnan o1 o2 o3 o4 (by rw [hst, if_pos rfl]; omega) (by rw [c2]; exact can_lt c1)
      · rw [← c3] at hu
        by_cases h5 : x < 0
        · rw [← hst, decide_eq_true h5, if_pos rfl, sv_true]
          rw [show ((x.natAbs : Nat) : Int) = -x from by omega, Int.neg_mul] at hu
          omega
        · rw [← hst, decide_eq_false h5, if_neg (by decide), sv_false]
          rw [show ((x.natAbs : Nat) : Int) = x from by omega] at hu
          omega
    · obtain ⟨m', e', c1, c2, c3, c4⟩ := word_pred (decide (x < 0)) hc hm
      have hp2 := hp hm
      rw [← c4] at hp2
      refine ⟨decide (x < 0), m', e', c1, fun W => ?_, ?_⟩
      · rw [← c2]
        refine next_raw _ _ (!t) (!(decide (x < 0))) _ W (can_lt hc) hinf (can_nan hc) hnan o1 o2 o3 o4 ?_ (by rw [c2]; exact can_lt c1)
        rw [if_neg (by intro h; apply hst; cases t <;> cases hd : decide (x < 0) <;> simp_all)]
        omega
      · by_cases h5 : x < 0
        · have ht : t = false := by
            rw [decide_eq_true h5] at hst
            cases t
            · rfl
            · exact absurd rfl hst
          rw [ht, decide_eq_true h5, if_neg (by decide), sv_true]
          rw [show ((x.natAbs : Nat) : Int) = -x from by omega, Int.neg_mul] at hp2
          omega
        · have ht : t = true := by
            rw [decide_eq_false h5] at hst
            cases t
            · exact absurd rfl hst
            · rfl
          rw [ht, decide_eq_false h5, if_pos rfl, sv_false]
          rw [show ((x.natAbs : Nat) : Int) = x from by omega] at hp2
          omega

end LM
end Go.Proofs.YtpaefbojilnnnaaGreatDoor

namespace Go.Proofs.YtpaefbojilnnnaaGreatDoor
open Go Go.RowKit
namespace LM
open Ieee
set_option linter.unusedVariables false

theorem pinf_any (w : World) : Calls Tryz.prog 16 #[.int .i64 1] w fun e w' => e = .returned (.float .f64 9218868437227405312) ∧ w = w' := by
  have f1 : ∀ W, (callFunc 18 #[.int .u64 9218868437227405312]).run Tryz.prog W = .ok (.value (.float .f64 9218868437227405312)) W := fun W => run_mfrom 9218868437227405312 W
  go_enter Tryz.func16, Tryz.ntmps16
  go_wp2
  go_ret
  exact ⟨rfl, rfl⟩

/-- the exact one of the word of a number -/
theorem exact_near (a m : Nat) (e : Int) (h : NearF a m e) (s : Bool) : ∃ y : Int, ¬ BigI y ∧ y * unit = sv s m e ∧ ∀ W, Calls Tryz.prog 23 #[.float .f64 (wordF s m e)] W (RetE W y) := by
  obtain ⟨hc, he, -, -, -, h6⟩ := h
  have hone : ((2 ^ 0 : Nat) : Int) = 1 := rfl
  have hm53 : (sg s m).natAbs < 9007199254740992 := by rw [sg_abs]; exact hc.1
  rcases h6 with h0 | ⟨rfl, rfl⟩ | ⟨q, k, hk, hq, rfl, rfl, hn⟩
  · exact ⟨_, prod_not_big hm53 (k := e.toNat) (by omega), sv_up s m e h0, fun W => floexact_up hc h0 W⟩
  · refine ⟨0, small_not_big (by decide), by rw [(sv_zero s 0 (-1074)).2 rfl, Int.zero_mul], fun W => ?_⟩
    have hx := floexact_zero s W
    rw [hone, Int.mul_one] at hx
    exact hx
  · refine ⟨sg s q, small_not_big (by rw [sg_abs]; omega), (sv_whole s q k (by omega)).symm, fun W => ?_⟩
    have hw : double.nearest s q 0 = wordF s (q * 2 ^ k) (-(k : Int)) := by
      have h3 := nearest_scale s q k 0
      rw [← h3, show (0 : Int) - (k : Int) = -(k : Int) from by omega, nearest_can hc]
    have hx := floexact_down s q k hk hq hc hn hw W
    rw [hone, Int.mul_one] at hx
    exact hx

theorem cmp_unit (x y : Int) : cmpI (x * unit) (y * unit) = cmpI x y := by
  have hu := unit_pos
  rcases Int.lt_trichotomy x y with h | h | h
  · rw [cmpI_lt h, cmpI_lt (Int.mul_lt_mul_of_pos_right h hu)]
  · rw [cmpI_eq h, cmpI_eq (by rw [h])]
  · rw [cmpI_gt h, cmpI_gt (Int.mul_lt_mul_of_pos_right h hu)]

set_option maxRecDepth 10000000 in
set_option maxHeartbeats 4000000 in
theorem near_main (s : Bool) (A : Option Addr) (ca : Nat) (xs : List Nat) (w : World) (ha : Rd w A xs) (hx : Lm xs) (hca : xs.length ≤ ca) (hcam : ca ≤ 9223372036854775807) (hna : A = none → xs.length = 0 ∧ ca = 0)
    (hv : FV w) (hl : xs.length ≤ 30) (hrx : rightB s xs = true) :
    Calls Tryz.prog 6 #[.agg #[.bool s, .slice A xs.length ca]] w fun e w' => e = .returned (.bool true) ∧ Below w.heap.size w w' := by
  have dt1 : decide (30 < (xs.length : Int)) = false := decide_eq_false (by omega)
  have dt2 : decide (30 < xs.length) = false := decide_eq_false (by omega)
  have HRX := Lib.hid hrx
  have hb0 : Below w.heap.size w (w.alloc (.cells #[.bool s, .slice A xs.length ca] 38)) := (Below.refl _ w).alloc (Nat.le_refl _) _
  have HB0 := Lib.hid hb0
  have X0 := Lib.hid (Bx.new w s A xs.length ca)
  have AL := Lib.hid (falive_any _ (hv.below hb0))
  have HA0 := Lib.hid (ha.below hb0)
  have HX := Lib.hid hx
  have HNA := Lib.hid hna
  obtain ⟨z, hz⟩ : ∃ z, sg s (val xs) = z := ⟨_, rfl⟩
  obtain ⟨hV0, nz⟩ := intV_of (w := w.alloc (.cells #[.bool s, .slice A xs.length ca] 38)) hrx (ha.below hb0) hx hca hcam
  rw [hz] at hV0 nz
  have V0 := Lib.hid hV0
  have NZ := Lib.hid nz
  obtain ⟨-, hcan, hsg, hval, -⟩ := right_parts hrx hx
  rw [hz] at hsg hval
  have hlen : ∀ r : List Nat, Can r → val r = z.natAbs → r.length ≤ 30 := fun r hr hrv => by
    rw [can_ext hr hcan (hrv.trans hval.symm)]
    exact hl
  have LE := Lib.hid hlen
  have P1 := Lib.hid pinf_any
  have M1 := Lib.hid minf_any
  clear hb0 ha hx hna hv hrx hV0 nz hcan hsg hval hlen hz
  go_enter Tryz.func6, Tryz.ntmps6
  go_wp2_with fail
  refine AL.out.mono ?_
  rintro e w1 ⟨rfl, hb1⟩
  have X1 := Lib.hid (X0.out.below hb1)
  have HB1 := Lib.hid (bel_trans (B := w.heap.size) HB0.out hb1)
  have HA1 := Lib.hid (HA0.out.below hb1)
  have V1 := Lib.hid (V0.out.keep hb1)
  have C1 := Lib.hid (rright_any s A ca xs w1 HA1.out HX.out hca hcam HNA.out)
  rw [HRX.out] at C1
  obtain ⟨q0, q1, -, -, ql⟩ := X1.out.facts
  clear hb1
  go_wp2_with fail
  refine C1.out.mono ?_
  rintro e w2 ⟨rfl, hb2⟩
  have X2 := Lib.hid (X1.out.below hb2)
  have HB2 := Lib.hid (bel_trans (B := w.heap.size) HB1.out hb2)
  have V2 := Lib.hid (V1.out.keep hb2)
  have C2 := Lib.hid (floof_near z _ w2 V2.out LE.out)
  clear q0 q1 ql hb2
  obtain ⟨q0, q1, -, -, ql⟩ := X2.out.facts
  go_wp2_with fail
  refine C2.out.mono ?_
  rintro e w3 ⟨⟨F, rfl, m, ee, hF, hN⟩, hb3⟩
  have hfw : (if decide (z < 0) then Op.negFloat .f64 F else F) = wordF (decide (z < 0)) m ee := by
    rw [hF]
    by_cases h : z < 0
    · rw [decide_eq_true h, if_pos rfl, neg_word hN.1]
      rfl
    · rw [decide_eq_false h, if_neg (by decide)]
  rw [hfw]
  obtain ⟨s4, m4, e4, hc4, hn4, hs4⟩ := next_near z m ee hN true
  obtain ⟨s5, m5, e5, hc5, hn5, hs5⟩ := next_near z m ee hN false
  obtain ⟨y, hy, hyu, hex⟩ := exact_near _ m ee hN (decide (z < 0))
  have X3 := Lib.hid (X2.out.below hb3)
  have HB3 := Lib.hid (bel_trans (B := w.heap.size) HB2.out hb3)
  have V3 := Lib.hid (V2.out.keep hb3)
  rw [show infW true = 18442240474082181120 from rfl] at hn4
  have N4 := Lib.hid hn4
  rw [show infW false = 9218868437227405312 from rfl] at hn5
  have N5 := Lib.hid hn5
  have EX := Lib.hid hex
  have NY := Lib.hid hy
  have CL := Lib.hid fun v W (h : IntV W v z) => flocmp_can (s := s4) hc4 z v W h NZ.out
  have CU := Lib.hid fun v W (h : IntV W v z) => flocmp_can (s := s5) hc5 z v W h NZ.out
  have CE := Lib.hid fun v W (h : IntV W v z) => flocmp_can (s := decide (z < 0)) hN.1 z v W h NZ.out
  have hl4 : cmpI (z * unit) (sv s4 m4 e4) = 1 := cmpI_gt hs4
  have hl5 : cmpI (z * unit) (sv s5 m5 e5) = -1 := cmpI_lt hs5
  rw [hl4] at CL
  rw [hl5] at CU
  rw [← hyu, cmp_unit] at CE
  generalize wordF (decide (z < 0)) m ee = f at *
  generalize wordF s4 m4 e4 = f4 at *
  generalize wordF s5 m5 e5 = f5 at *
  clear hF hN hfw hn4 hn5 hex hc4 hc5 hs4 hs5 hl4 hl5 hyu hy hb3 q0 q1 ql
  obtain ⟨q0, q1, -, -, ql⟩ := X3.out.facts
  have KS : Hid (∀ W, Bx W w.heap.size s A xs.length ca → W.cell? ⟨w.heap.size, 0, none⟩ = some (.bool s) ∧ W.cell? ⟨w.heap.size, 1, none⟩ = some (.slice A xs.length ca)) := Lib.hid (fun W h => ⟨h.facts.1, h.facts.2.1⟩)
  have C3 := Lib.hid (CL.out _ w3.drew V3.out.drew)
  go_wp2
  go_region_held3 (fun W => W.cell? ⟨w.heap.size, 0, none⟩ = some (.bool s) ∧ W.cell? ⟨w.heap.size, 1, none⟩ = some (.slice A xs.length ca))
      ((exact KS.out _ (Hid.out (by assumption))))
      (first
        | (go_at_call 16; (with_reducible refine (M1.out _).mono ?_); rintro e w' ⟨rfl, rfl⟩)
        | (go_at_call 30; (with_reducible refine (N4.out _).mono ?_); rintro e w' ⟨rfl, rfl⟩)
        | (go_at_call 25; (with_reducible refine C3.out.mono ?_); rintro e w4 ⟨rfl, hb4⟩; have X4 := Lib.hid (X3.out.drew.below hb4); have HB4 := Lib.hid (bel_trans (B := w.heap.size) HB3.out.drew hb4); have V4 := Lib.hid (V3.out.drew.keep hb4); clear hb4))
  obtain ⟨r0, r1, -, -, rl⟩ := X4.out.facts
  have C4 := Lib.hid (CU.out _ w4.drew V4.out.drew)
  clear q0 q1 ql
  go_wp2
  go_region_held3 (fun W => W.cell? ⟨w.heap.size, 0, none⟩ = some (.bool s) ∧ W.cell? ⟨w.heap.size, 1, none⟩ = some (.slice A xs.length ca))
      ((exact KS.out _ (Hid.out (by assumption))))
      (first
        | (go_at_call 16; (with_reducible refine (P1.out _).mono ?_); rintro e w' ⟨rfl, rfl⟩)
        | (go_at_call 30; (with_reducible refine (N5.out _).mono ?_); rintro e w' ⟨rfl, rfl⟩)
        | (go_at_call 25; (with_reducible refine C4.out.mono ?_); rintro e w5 ⟨rfl, hb5⟩; have X5 := Lib.hid (X4.out.drew.below hb5); have HB5 := Lib.hid (bel_trans (B := w.heap.size) HB4.out.drew hb5); have V5 := Lib.hid (V4.out.drew.keep hb5); clear hb5))
  clear r0 r1 rl
  obtain ⟨q0, q1, -, -, ql⟩ := X5.out.facts
  have C5 := Lib.hid (CE.out _ w5 V5.out)
  go_wp2_with fail
  refine C5.out.mono ?_
  rintro e w6 ⟨rfl, hb6⟩
  have X6 := Lib.hid (X5.out.below hb6)
  have HB6 := Lib.hid (bel_trans (B := w.heap.size) HB5.out hb6)
  have V6 := Lib.hid (V5.out.keep hb6)
  clear q0 q1 ql hb6
  obtain ⟨q0, q1, -, -, ql⟩ := X6.out.facts
  go_wp2_with fail
  refine (EX.out _).mono ?_
  rintro e w7 ⟨s7, A7, n7, c7, er, rfl, ho, hb7⟩
  obtain ⟨rfl, hv7⟩ : er = 0 ∧ IntV w7 (.agg #[.bool s7, .slice A7 n7 c7]) y := by
    rcases ho with ⟨h, _⟩ | ⟨_, h1, h2⟩
    · exact absurd h NY.out
    · exact ⟨h1, h2⟩
  have X7 := Lib.hid ((X6.out.below hb7).alloc (.cells #[.bool s7, .slice A7 n7 c7] 38))
  have Y7 := Lib.hid (Bx.new w7 s7 A7 n7 c7)
  have hb8 := bel_trans (B := w.heap.size) HB6.out hb7
  have HB7 := Lib.hid (hb8.alloc hb8.size (.cells #[.bool s7, .slice A7 n7 c7] 38))
  have C7 := Lib.hid (rcmp2_int ((V6.out.keep hb7).alloc (.cells #[.bool s7, .slice A7 n7 c7] 38)).toR (hv7.alloc (.cells #[.bool s7, .slice A7 n7 c7] 38)).toR NZ.out NY.out)
  clear ho hb7 hb8 hv7 q0 q1 ql
  obtain ⟨q0, q1, -, -, ql⟩ := X7.out.facts
  obtain ⟨r0, r1, -, -, rl⟩ := Y7.out.facts
  have hcc : (cmpI z y == cmpI z y) = true := beq_self_eq_true _
  go_wp2_with fail
  refine C7.out.mono ?_
  rintro e w8 ⟨rfl, hb8⟩
  have HB8 := Lib.hid (bel_trans (B := w.heap.size) HB7.out hb8)
  clear hb8
  go_wp2
  go_ret
  exact ⟨rfl, HB8.out⟩

set_option maxRecDepth 100000 in
set_option maxHeartbeats 2000000 in
theorem near_not (s : Bool) (A : Option Addr) (ca : Nat) (xs : List Nat) (w : World) (ha : Rd w A xs) (hx : Lm xs) (hca : xs.length ≤ ca) (hcam : ca ≤ 9223372036854775807) (hna : A = none → xs.length = 0 ∧ ca = 0)
    (hv : FV w) (hrx : rightB s xs = false) :
    Calls Tryz.prog 6 #[.agg #[.bool s, .slice A xs.length ca]] w fun e w' => e = .returned (.bool true) ∧ Below w.heap.size w w' := by
  have HRX := Lib.hid hrx
  have hb0 : Below w.heap.size w (w.alloc (.cells #[.bool s, .slice A xs.length ca] 38)) := (Below.refl _ w).alloc (Nat.le_refl _) _
  have HB0 := Lib.hid hb0
  have X0 := Lib.hid (Bx.new w s A xs.length ca)
  have AL := Lib.hid (falive_any _ (hv.below hb0))
  have HA0 := Lib.hid (ha.below hb0)
  have HX := Lib.hid hx
  have HNA := Lib.hid hna
  clear hb0 ha hx hna hv hrx
  go_enter Tryz.func6, Tryz.ntmps6
  go_wp2_with fail
  refine AL.out.mono ?_
  rintro e w1 ⟨rfl, hb1⟩
  have X1 := Lib.hid (X0.out.below hb1)
  have HB1 := Lib.hid (bel_trans (B := w.heap.size) HB0.out hb1)
  have HA1 := Lib.hid (HA0.out.below hb1)
  have C1 := Lib.hid (rright_any s A ca xs w1 HA1.out HX.out hca hcam HNA.out)
  rw [HRX.out] at C1
  obtain ⟨q0, q1, -, -, ql⟩ := X1.out.facts
  clear hb1
  go_wp2_with fail
  refine C1.out.mono ?_
  rintro e w2 ⟨rfl, hb2⟩
  have X2 := Lib.hid (X1.out.below hb2)
  have HB2 := Lib.hid (bel_trans (B := w.heap.size) HB1.out hb2)
  clear q0 q1 ql hb2
  obtain ⟨q0, q1, -, -, ql⟩ := X2.out.facts
  go_wp2
  go_ret
  exact ⟨rfl, HB2.out⟩

set_option maxRecDepth 100000 in
set_option maxHeartbeats 2000000 in
theorem near_long (s : Bool) (A : Option Addr) (ca : Nat) (xs : List Nat) (w : World) (ha : Rd w A xs) (hx : Lm xs) (hca : xs.length ≤ ca) (hcam : ca ≤ 9223372036854775807) (hna : A = none → xs.length = 0 ∧ ca = 0)
    (hv : FV w) (hrx : rightB s xs = true) (hl : 30 < xs.length) :
    Calls Tryz.prog 6 #[.agg #[.bool s, .slice A xs.length ca]] w fun e w' => e = .returned (.bool true) ∧ Below w.heap.size w w' := by
  have dt1 : decide (30 < (xs.length : Int)) = true := decide_eq_true (by omega)
  have dt2 : decide (30 < xs.length) = true := decide_eq_true hl
  have HRX := Lib.hid hrx
  have hb0 : Below w.heap.size w (w.alloc (.cells #[.bool s, .slice A xs.length ca] 38)) := (Below.refl _ w).alloc (Nat.le_refl _) _
  have HB0 := Lib.hid hb0
  have X0 := Lib.hid (Bx.new w s A xs.length ca)
  have AL := Lib.hid (falive_any _ (hv.below hb0))
  have HA0 := Lib.hid (ha.below hb0)
  have HX := Lib.hid hx
  have HNA := Lib.hid hna
  clear hb0 ha hx hna hv hrx
  go_enter Tryz.func6, Tryz.ntmps6
  go_wp2_with fail
  refine AL.out.mono ?_
  rintro e w1 ⟨rfl, hb1⟩
  have X1 := Lib.hid (X0.out.below hb1)
  have HB1 := Lib.hid (bel_trans (B := w.heap.size) HB0.out hb1)
  have HA1 := Lib.hid (HA0.out.below hb1)
  have C1 := Lib.hid (rright_any s A ca xs w1 HA1.out HX.out hca hcam HNA.out)
  rw [HRX.out] at C1
  obtain ⟨q0, q1, -, -, ql⟩ := X1.out.facts
  clear hb1
  go_wp2_with fail
  refine C1.out.mono ?_
  rintro e w2 ⟨rfl, hb2⟩
  have X2 := Lib.hid (X1.out.below hb2)
  have HB2 := Lib.hid (bel_trans (B := w.heap.size) HB1.out hb2)
  clear q0 q1 ql hb2
  obtain ⟨q0, q1, -, -, ql⟩ := X2.out.facts
  go_wp2
  go_ret
  exact ⟨rfl, HB2.out⟩

theorem near_walk (s : Bool) (A : Option Addr) (ca : Nat) (xs : List Nat) (w : World) (ha : Rd w A xs) (hx : Lm xs) (hca : xs.length ≤ ca) (hcam : ca ≤ 9223372036854775807) (hna : A = none → xs.length = 0 ∧ ca = 0)
    (hv : FV w) :
    Calls Tryz.prog 6 #[.agg #[.bool s, .slice A xs.length ca]] w fun e w' => e = .returned (.bool true) ∧ Below w.heap.size w w' := by
  cases hrx : rightB s xs
  · exact near_not s A ca xs w ha hx hca hcam hna hv hrx
  · rcases Nat.lt_or_ge 30 xs.length with hl | hl
    · exact near_long s A ca xs w ha hx hca hcam hna hv hrx hl
    · exact near_main s A ca xs w ha hx hca hcam hna hv hl hrx

end LM
end Go.Proofs.YtpaefbojilnnnaaGreatDoor
