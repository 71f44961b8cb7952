import GoSem.Core.Float
import Derived.Laws.FloatArith
set_option linter.unusedVariables false
set_option linter.unusedSimpArgs false
set_option maxRecDepth 100000
set_option maxHeartbeats 16000000
namespace Go.Proofs.YtihbgghlnppkiaaGreatDoor
namespace LM
open Ieee
theorem d_lp : double.leastPlace = -1074:=by decide
theorem d_bin : double.binade = 4503599627370496:=by decide
theorem d_inf : double.infRung = 9218868437227405312:=by decide
theorem d_sw : double.signWeight = 9223372036854775808:=by decide
theorem d_fmt : FloatKind.f64.format = double:=rfl
def moreB (way : Toward) (neg : Bool) (low rest gap : Nat) : Bool:=match way with
  | .even=>decide (gap < 2 * rest) || (gap == 2 * rest && low % 2 == 1)
  | .down=>neg && rest != 0
  | .up=>!neg && rest != 0
  | .zero=>false
theorem cut_eq (way : Toward) (neg : Bool) (n d : Nat) : way.cut neg n d = n / 2 ^ d + (moreB way neg (n / 2 ^ d) (n % 2 ^ d) (2 ^ d)).toNat:=by
  unfold Toward.cut
  simp only [Nat.shiftLeft_eq,Nat.one_mul]
  by_cases h : d ≤ n.log2 + 2
  · rw [Nat.min_eq_left h]; cases way <;> rfl
  · rw [Nat.min_eq_right (by omega)]
    have h1 : n < 2 ^ (n.log2 + 1):=Nat.lt_log2_self
    have h2 : 2 ^ (n.log2 + 2) = 2 * 2 ^ (n.log2 + 1):=by rw [Nat.pow_succ]; omega
    have h3 : 2 ^ (n.log2 + 2) ≤ 2 ^ d:=Nat.pow_le_pow_right (by decide) (by omega)
    have q1 : n / 2 ^ (n.log2 + 2) = 0:=Nat.div_eq_of_lt (by omega)
    have q2 : n % 2 ^ (n.log2 + 2) = n:=Nat.mod_eq_of_lt (by omega)
    have q3 : n / 2 ^ d = 0:=Nat.div_eq_of_lt (by omega)
    have q4 : n % 2 ^ d = n:=Nat.mod_eq_of_lt (by omega)
    rw [q1,q2,q3,q4]
    have e1 : decide (2 ^ (n.log2 + 2) < 2 * n) = false:=decide_eq_false (by omega)
    have e2 : decide (2 ^ d < 2 * n) = false:=decide_eq_false (by omega)
    cases way <;> simp [moreB,e1,e2] <;> omega
theorem more_scale (way : Toward) (neg : Bool) (low rest gap k : Nat) (hk : 0 < k) : moreB way neg low (rest * k) (gap * k) = moreB way neg low rest gap:=by
  have e1 : (gap * k < 2 * (rest * k)) ↔ gap < 2 * rest:=by
    rw [← Nat.mul_assoc]; exact Nat.mul_lt_mul_right hk
  have e2 : (gap * k == 2 * (rest * k)) = (gap == 2 * rest):=by
    rw [← Nat.mul_assoc,Bool.eq_iff_iff,beq_iff_eq,beq_iff_eq]
    exact ⟨fun h=>Nat.eq_of_mul_eq_mul_right hk h,fun h=>by rw [h]⟩
  have e3 : (rest * k != 0) = (rest != 0):=by
    rcases Nat.eq_zero_or_pos rest with h | h
    · rw [h,Nat.zero_mul]
    · have h2:=Nat.mul_pos h hk
      rw [bne_iff_ne.2 (by omega),bne_iff_ne.2 (by omega)]
  cases way <;> simp only [moreB,e1,e2,e3]
theorem cut_scale (way : Toward) (neg : Bool) (n d k : Nat) : way.cut neg (n * 2 ^ k) (d + k) = way.cut neg n d:=by
  rw [cut_eq,cut_eq,Nat.pow_add]
  have hk : 0 < 2 ^ k:=Nat.two_pow_pos _
  rw [Nat.mul_div_mul_right _ _ hk,Nat.mul_mod_mul_right,more_scale _ _ _ _ _ _ hk]
theorem cut_zero (way : Toward) (neg : Bool) (n : Nat) : way.cut neg n 0 = n:=by
  rw [cut_eq]
  have : n % 2 ^ 0 = 0:=by rw [Nat.pow_zero]; omega
  rw [this,Nat.pow_zero,Nat.div_one]
  cases way <;> simp [moreB]
theorem log2_scale (m k : Nat) (hm : m ≠ 0) : (m * 2 ^ k).log2 = m.log2 + k:=by
  have hp : 0 < 2 ^ k:=Nat.two_pow_pos _
  have hne : m * 2 ^ k ≠ 0:=Nat.mul_ne_zero hm (by omega)
  have h1:=Nat.log2_self_le hm
  have h2:=@Nat.lt_log2_self m
  have h3 : m.log2 + k ≤ (m * 2 ^ k).log2:=(Nat.le_log2 hne).2 (by rw [Nat.pow_add]; exact Nat.mul_le_mul_right _ h1)
  have h4 : (m * 2 ^ k).log2 < m.log2 + k + 1:=(Nat.log2_lt hne).2 (by
    rw [show m.log2 + k + 1 = (m.log2 + 1) + k from by omega,Nat.pow_add]; exact Nat.mul_lt_mul_of_pos_right h2 hp)
  omega
theorem nearest_scale (s : Bool) (m k : Nat) (e : Int) : double.nearest s (m * 2 ^ k) (e - k) = double.nearest s m e:=by
  rcases Nat.eq_zero_or_pos m with rfl | hm
  · simp [Format.nearest]
  have hm0 : m ≠ 0:=by omega
  have hk : 0 < 2 ^ k:=Nat.two_pow_pos _
  have hne : m * 2 ^ k ≠ 0:=Nat.mul_ne_zero hm0 (by omega)
  unfold Format.nearest
  rw [if_neg hne,if_neg hm0,log2_scale m k hm0]
  dsimp only
  rw [show e - (k : Int) + ((m.log2 + k : Nat) : Int) - (double.fractionBits : Int) = e + (m.log2 : Int) - (double.fractionBits : Int) from by omega]
  generalize max (e + (m.log2 : Int) - (double.fractionBits : Int)) double.leastPlace = last
  congr 3
  simp only [Nat.shiftLeft_eq]
  rcases Int.le_total last (e - k) with h | h
  · rw [show (last - (e - (k : Int))).toNat = 0 from by omega,show (last - e).toNat = 0 from by omega,cut_zero,cut_zero,Nat.mul_assoc,← Nat.pow_add]
    congr 2; omega
  · rcases Int.le_total last e with h2 | h2
    · obtain ⟨a,ha⟩ : ∃ a : Nat,e - last = (a : Int):=⟨(e - last).toNat,by omega⟩
      obtain ⟨b,hb⟩ : ∃ b : Nat,last - (e - k) = (b : Int):=⟨(last - (e - k)).toNat,by omega⟩
      have hab : k = a + b:=by omega
      rw [show (e - (k : Int) - last).toNat = 0 from by omega,show (last - e).toNat = 0 from by omega,ha,hb,Int.toNat_natCast,Int.toNat_natCast,cut_zero,Nat.pow_zero,Nat.mul_one,hab,Nat.pow_add,← Nat.mul_assoc]
      have h:=cut_scale Toward.even s (m * 2 ^ a) 0 b
      rw [cut_zero,Nat.zero_add] at h
      exact h
    · obtain ⟨b,hb⟩ : ∃ b : Nat,last - e = (b : Int):=⟨(last - e).toNat,by omega⟩
      rw [show (e - (k : Int) - last).toNat = 0 from by omega,show (e - last).toNat = 0 from by omega,show (last - (e - (k : Int))).toNat = b + k from by omega,hb,Int.toNat_natCast,Nat.pow_zero,Nat.mul_one,Nat.mul_one]
      exact cut_scale _ _ _ _ _
def CanF (m : Nat) (e : Int) : Prop:=m < 9007199254740992∧-1074 ≤ e∧e ≤ 971∧(4503599627370496 ≤ m ∨ e = -1074)
def wordF (s : Bool) (m : Nat) (e : Int) : Nat:=(if s then 9223372036854775808 else 0) + ((e + 1074).toNat * 4503599627370496 + m)
theorem nearest_can {s : Bool} {m : Nat} {e : Int} (h : CanF m e) : double.nearest s m e = wordF s m e:=by
  obtain ⟨h1,h2,h3,h4⟩:=h
  unfold Format.nearest wordF
  have hfb : double.fractionBits = 52:=rfl
  rw [d_lp,hfb,d_bin,d_inf]
  by_cases hm : m = 0
  · subst hm
    obtain rfl : e = -1074:=h4.resolve_left (by omega)
    cases s <;> rfl
  · rw [if_neg hm]
    dsimp only
    have hl : max (e + (m.log2 : Int) - (52 : Nat)) (-1074) = e:=by
      have l1 : m.log2 < 53:=(Nat.log2_lt hm).2 (by omega)
      rcases h4 with h4 | h4
      · have l2 : 52 ≤ m.log2:=(Nat.le_log2 hm).2 (by omega)
        omega
      · omega
    rw [hl,Int.sub_self,Int.toNat_zero,Nat.shiftLeft_zero,cut_zero,show e - -1074 = e + 1074 from by omega]
    have hb : (e + 1074).toNat ≤ 2045:=by omega
    generalize (e + 1074).toNat = k at hb ⊢
    have hle : k * 4503599627370496 + m ≤ 9218868437227405312:=by omega
    rw [Nat.min_eq_left hle]
    unfold Format.word
    rw [d_sw]
    cases s
    · exact (Nat.zero_add _).symm
    · rfl
theorem read_word {s : Bool} {m : Nat} {e : Int} (h : CanF m e) : double.read (wordF s m e) = .number s m e:=by
  obtain ⟨h1,h2,h3,h4⟩:=h
  obtain ⟨k,hk⟩ : ∃ k : Nat,e = k - 1074:=⟨(e + 1074).toNat,by omega⟩
  subst hk
  have hk2 : k ≤ 2045:=by omega
  unfold wordF Format.read
  rw [d_sw,d_bin,d_inf,d_lp]
  dsimp only
  rw [show ((k : Int) - 1074 + 1074).toNat = k from by omega]
  have hs : (((if s then 9223372036854775808 else 0) + (k * 4503599627370496 + m)) / 9223372036854775808 % 2 == 1) = s:=by
    cases s
    · simp; omega
    · simp; omega
  have hr : ((if s then 9223372036854775808 else 0) + (k * 4503599627370496 + m)) % 9223372036854775808 = k * 4503599627370496 + m:=by
    cases s
    · simp; omega
    · simp; omega
  rw [hs,hr]
  by_cases hsub : k * 4503599627370496 + m < 4503599627370496
  · rw [if_pos hsub]
    obtain rfl : k = 0:=by omega
    simp
  · rw [if_neg hsub,if_pos (by omega)]
    have hm : 4503599627370496 ≤ m:=by
      rcases h4 with h4 | h4
      · exact h4
      · omega
    congr 1 <;> omega
theorem word_of (b : Nat) (hb : b < 18446744073709551616) (hf : b % 9223372036854775808 < 9218868437227405312) :
    ∃ s m e,CanF m e∧b = wordF s m e:=by
  have hd : b / 9223372036854775808 < 2:=by omega
  refine ⟨b / 9223372036854775808 == 1,?_⟩
  have hsv : (if (b / 9223372036854775808 == 1) = true then 9223372036854775808 else 0) = b / 9223372036854775808 * 9223372036854775808:=by
    rcases (show b / 9223372036854775808 = 0 ∨ b / 9223372036854775808 = 1 from by omega) with h | h <;> rw [h] <;> rfl
  unfold wordF
  rw [hsv]
  by_cases h : b % 9223372036854775808 < 4503599627370496
  · exact ⟨b % 9223372036854775808,-1074,⟨by omega,by omega,by omega,.inr rfl⟩,by simp; omega⟩
  · refine ⟨4503599627370496 + b % 4503599627370496,(b % 9223372036854775808 / 4503599627370496 : Nat) - 1075,⟨by omega,by omega,by omega,.inl (by omega)⟩,?_⟩
    rw [show (((b % 9223372036854775808 / 4503599627370496 : Nat) : Int) - 1075 + 1074).toNat = b % 9223372036854775808 / 4503599627370496 - 1 from by omega]
    omega
theorem read_inf (b : Nat) (h : b % 9223372036854775808 = 9218868437227405312) : double.read b = .infinity (b / 9223372036854775808 % 2 == 1):=by
  unfold Format.read
  rw [d_sw,d_bin,d_inf]
  dsimp only
  rw [if_neg (by omega),if_neg (by omega),if_pos h]
theorem read_nan (b : Nat) (h : 9218868437227405312 < b % 9223372036854775808) : double.read b = .nan (b / 9223372036854775808 % 2 == 1) (b % 9223372036854775808 - 9218868437227405312):=by
  unfold Format.read
  rw [d_sw,d_bin,d_inf]
  dsimp only
  rw [if_neg (by omega),if_neg (by omega),if_neg (by omega)]
def nanW (b : Nat) : Prop:=9218868437227405312 < b % 9223372036854775808
instance (b : Nat) : Decidable (nanW b):=by unfold nanW; infer_instance
theorem order_self (b : Nat) (hb : b < 18446744073709551616) : double.order b b = if nanW b then none else some .eq:=by
  unfold Format.order
  by_cases h : nanW b
  · rw [if_pos h,read_nan b h]; rfl
  · rw [if_neg h]
    unfold nanW at h
    rcases Nat.lt_or_ge (b % 9223372036854775808) 9218868437227405312 with h2 | h2
    · obtain ⟨s,m,e,hc,rfl⟩:=word_of b hb h2
      rw [read_word hc]
      simp [Datum.order,compare,compareOfLessAndEq]
    · rw [read_inf b (by omega)]
      simp [Datum.order,compare,compareOfLessAndEq]
end LM
end Go.Proofs.YtihbgghlnppkiaaGreatDoor
