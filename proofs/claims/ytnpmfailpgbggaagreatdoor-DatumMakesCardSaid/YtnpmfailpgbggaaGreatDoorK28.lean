/- Mathematics of floating numbers: their values in units of the least place; order, sums, whole numbers; words' bits. -/
import Derived.Test.YtnpmfailpgbggaaGreatDoorK23
import Derived.Laws.BitsAllLaws
import GoSem.Extern.MathFloor
namespace Go.Proofs.YtnpmfailpgbggaaGreatDoor
namespace LM
open Ieee Go

/-- a number's value in units of the least place -/
def sv (s : Bool) (m : Nat) (e : Int) : Int := if s then -((m * 2 ^ (e + 1074).toNat : Nat) : Int) else ((m * 2 ^ (e + 1074).toNat : Nat) : Int)

theorem word_f (s : Bool) (r : Nat) : double.word s r = (if s then 9223372036854775808 else 0) + r := by
  unfold Format.word
  rw [d_sw]
  cases s <;> simp

/-- a whole number of at most 53 digits, at any place, is a word's number -/
theorem nearest_small (s : Bool) (M : Nat) (e : Int) (hM : M < 9007199254740992) (h0 : -1074 ≤ e) (h1 : e ≤ 971) :
    ∃ m' e', CanF m' e' ∧ double.nearest s M e = wordF s m' e' ∧ m' * 2 ^ (e' + 1074).toNat = M * 2 ^ (e + 1074).toNat ∧ e' ≤ e := by
  rcases Nat.eq_zero_or_pos M with rfl | hp
  · refine ⟨0, -1074, ⟨by decide, by decide, by decide, .inr rfl⟩, ?_, by simp, h0⟩
    unfold Format.nearest wordF
    rw [if_pos rfl, word_f]
    simp
  · have hM0 : M ≠ 0 := by omega
    have l1 : M.log2 < 53 := (Nat.log2_lt hM0).2 (by omega)
    have l2 := Nat.log2_self_le hM0
    have l3 := @Nat.lt_log2_self M
    obtain ⟨k, hk⟩ : ∃ k, min (52 - M.log2) (e + 1074).toNat = k := ⟨_, rfl⟩
    have hk1 : k ≤ 52 - M.log2 := by omega
    have hk2 : k ≤ (e + 1074).toNat := by omega
    have b1 : M * 2 ^ k < 9007199254740992 := by
      have : M * 2 ^ k < 2 ^ (M.log2 + 1) * 2 ^ k := Nat.mul_lt_mul_of_pos_right l3 (Nat.two_pow_pos _)
      rw [← Nat.pow_add] at this
      have : 2 ^ (M.log2 + 1 + k) ≤ 2 ^ 53 := Nat.pow_le_pow_right (by decide) (by omega)
      omega
    have hc : CanF (M * 2 ^ k) (e - k) := by
      refine ⟨b1, by omega, by omega, ?_⟩
      by_cases h : k = 52 - M.log2
      · left
        have h1 : 2 ^ M.log2 * 2 ^ k ≤ M * 2 ^ k := Nat.mul_le_mul_right _ l2
        rw [← Nat.pow_add, show M.log2 + k = 52 from by omega] at h1
        omega
      · right; omega
    refine ⟨M * 2 ^ k, e - k, hc, ?_, ?_, by omega⟩
    · rw [← nearest_scale s M k e]; exact nearest_can hc
    · rw [Nat.mul_assoc, ← Nat.pow_add]
      congr 2
      omega

theorem mul_one {s : Bool} {m : Nat} {e : Int} (h : CanF m e) : double.mul 4607182418800017408 (wordF s m e) = some (wordF s m e) := by
  have h1 : double.read 4607182418800017408 = .number false 4503599627370496 (-52) := by decide
  unfold Format.mul
  rw [h1, read_word h]
  show some (double.nearest (false ^^ s) (4503599627370496 * m) (-52 + e)) = _
  rw [Bool.false_xor, Nat.mul_comm, show (-52 : Int) + e = e - (52 : Nat) from by omega, show 4503599627370496 = 2 ^ 52 from by decide, nearest_scale, nearest_can h]

theorem xor_top (x : Nat) (hx : x < 9223372036854775808) : x ^^^ 2 ^ 63 = 9223372036854775808 + x := by
  rw [← nat_join 63 9223372036854775808 x (by decide) hx, show 9223372036854775808 = 2 ^ 63 from by decide]
  apply Nat.eq_of_testBit_eq
  intro i
  rw [Nat.testBit_xor, Nat.testBit_or, Nat.testBit_two_pow]
  by_cases h : 63 = i
  · subst h
    rw [Nat.testBit_lt_two_pow (show x < 2 ^ 63 from hx)]
    rfl
  · rw [decide_eq_false h]
    simp
theorem neg_word {s : Bool} {m : Nat} {e : Int} (h : CanF m e) : Op.negFloat .f64 (wordF s m e) = wordF (!s) m e := by
  unfold Op.negFloat
  obtain ⟨h1, h2, h3, h4⟩ := h
  unfold wordF
  have hl : (e + 1074).toNat * 4503599627370496 + m < 9223372036854775808 := by omega
  generalize (e + 1074).toNat * 4503599627370496 + m = x at hl ⊢
  show _ ^^^ 2 ^ 63 = _
  cases s
  · simp only [Bool.false_eq_true, if_false, Nat.zero_add, Bool.not_false, if_true]
    exact xor_top x hl
  · simp only [Bool.false_eq_true, if_false, Nat.zero_add, Bool.not_true, if_true]
    rw [← xor_top x hl, Nat.xor_assoc, Nat.xor_self, Nat.xor_zero]
end LM
end Go.Proofs.YtnpmfailpgbggaaGreatDoor
