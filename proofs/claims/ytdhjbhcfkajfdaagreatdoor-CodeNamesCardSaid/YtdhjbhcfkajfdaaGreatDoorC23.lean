/- Mathematics of floating numbers in 64 bits: what a word stands for, and which word is nearest. -/
import GoSem.Core.Float
import Derived.Laws.FloatArith
namespace Go.Proofs.YtdhjbhcfkajfdaaGreatDoor
namespace LM
open Ieee

theorem d_lp : double.leastPlace = -1074 := by decide
theorem d_bin : double.binade = 4503599627370496 := by decide
theorem d_inf : double.infRung = 9218868437227405312 := by decide
theorem d_sw : double.signWeight = 9223372036854775808 := by decide
/-- the form in which a word's number stands -/
def CanF (m : Nat) (e : Int) : Prop := m < 9007199254740992 ∧ -1074 ≤ e ∧ e ≤ 971 ∧ (4503599627370496 ≤ m ∨ e = -1074)
/-- the word of a number in that form -/
def wordF (s : Bool) (m : Nat) (e : Int) : Nat := (if s then 9223372036854775808 else 0) + ((e + 1074).toNat * 4503599627370496 + m)

theorem read_word {s : Bool} {m : Nat} {e : Int} (h : CanF m e) : double.read (wordF s m e) = .number s m e := by
  obtain ⟨h1, h2, h3, h4⟩ := h
  obtain ⟨k, hk⟩ : ∃ k : Nat, e = k - 1074 := ⟨(e + 1074).toNat, by omega⟩
  subst hk
  have hk2 : k ≤ 2045 := by omega
  unfold wordF Format.read
  rw [d_sw, d_bin, d_inf, d_lp]
  dsimp only
  rw [show ((k : Int) - 1074 + 1074).toNat = k from by omega]
  have hs : (((if s then 9223372036854775808 else 0) + (k * 4503599627370496 + m)) / 9223372036854775808 % 2 == 1) = s := by
    cases s
    · simp; omega
    · simp; omega
  have hr : ((if s then 9223372036854775808 else 0) + (k * 4503599627370496 + m)) % 9223372036854775808 = k * 4503599627370496 + m := by
    cases s
    · simp; omega
    · simp; omega
  rw [hs, hr]
  by_cases hsub : k * 4503599627370496 + m < 4503599627370496
  · rw [if_pos hsub]
    obtain rfl : k = 0 := by omega
    simp
  · rw [if_neg hsub, if_pos (by omega)]
    have hm : 4503599627370496 ≤ m := by
      rcases h4 with h4 | h4
      · exact h4
      · omega
    congr 1 <;> omega

/-- every word below the infinities is such a number's -/
theorem word_of (b : Nat) (hb : b < 18446744073709551616) (hf : b % 9223372036854775808 < 9218868437227405312) :
    ∃ s m e, CanF m e ∧ b = wordF s m e := by
  have hd : b / 9223372036854775808 < 2 := by omega
  refine ⟨b / 9223372036854775808 == 1, ?_⟩
  have hsv : (if (b / 9223372036854775808 == 1) = true then 9223372036854775808 else 0) = b / 9223372036854775808 * 9223372036854775808 := by
    rcases (show b / 9223372036854775808 = 0 ∨ b / 9223372036854775808 = 1 from by omega) with h | h <;> rw [h] <;> rfl
  unfold wordF
  rw [hsv]
  by_cases h : b % 9223372036854775808 < 4503599627370496
  · exact ⟨b % 9223372036854775808, -1074, ⟨by omega, by omega, by omega, .inr rfl⟩, by simp; omega⟩
  · refine ⟨4503599627370496 + b % 4503599627370496, (b % 9223372036854775808 / 4503599627370496 : Nat) - 1075, ⟨by omega, by omega, by omega, .inl (by omega)⟩, ?_⟩
    rw [show (((b % 9223372036854775808 / 4503599627370496 : Nat) : Int) - 1075 + 1074).toNat = b % 9223372036854775808 / 4503599627370496 - 1 from by omega]
    omega

theorem read_inf (b : Nat) (h : b % 9223372036854775808 = 9218868437227405312) : double.read b = .infinity (b / 9223372036854775808 % 2 == 1) := by
  unfold Format.read
  rw [d_sw, d_bin, d_inf]
  dsimp only
  rw [if_neg (by omega), if_neg (by omega), if_pos h]
theorem read_nan (b : Nat) (h : 9218868437227405312 < b % 9223372036854775808) : double.read b = .nan (b / 9223372036854775808 % 2 == 1) (b % 9223372036854775808 - 9218868437227405312) := by
  unfold Format.read
  rw [d_sw, d_bin, d_inf]
  dsimp only
  rw [if_neg (by omega), if_neg (by omega), if_neg (by omega)]

def nanW (b : Nat) : Prop := 9218868437227405312 < b % 9223372036854775808
instance (b : Nat) : Decidable (nanW b) := by unfold nanW; infer_instance

/-- a word is equal to itself but for what is not a number -/
theorem order_self (b : Nat) (hb : b < 18446744073709551616) : double.order b b = if nanW b then none else some .eq := by
  unfold Format.order
  by_cases h : nanW b
  · rw [if_pos h, read_nan b h]; rfl
  · rw [if_neg h]
    unfold nanW at h
    rcases Nat.lt_or_ge (b % 9223372036854775808) 9218868437227405312 with h2 | h2
    · obtain ⟨s, m, e, hc, rfl⟩ := word_of b hb h2
      rw [read_word hc]
      simp [Datum.order, compare, compareOfLessAndEq]
    · rw [read_inf b (by omega)]
      simp [Datum.order, compare, compareOfLessAndEq]

end LM
end Go.Proofs.YtdhjbhcfkajfdaaGreatDoor
