import GoSem.Core.Float
import Derived.Laws.FloatArith
import Derived.Laws.BitsAllLaws
import GoSem.Extern.MathFloor
set_option linter.unusedVariables false
set_option linter.unusedSimpArgs false
set_option maxRecDepth 100000
set_option maxHeartbeats 16000000
namespace Go.Proofs.YtaonablbgicmpaaGreatDoor
namespace LM
open Ieee
theorem d_lp : double.leastPlace = -1074:=by decide
theorem d_bin : double.binade = 4503599627370496:=by decide
theorem d_inf : double.infRung = 9218868437227405312:=by decide
theorem d_sw : double.signWeight = 9223372036854775808:=by decide
theorem d_fmt : FloatKind.f64.format = double:=rfl
def moreB (way : Toward) (neg : Bool) (low rest gap : Nat) : Bool:=match way with
 | .even=>decide (gap < 2 * rest) || (gap == 2 * rest && low % 2 == 1)
 | .down=>neg && rest != 0
 | .up=>!neg && rest != 0
 | .zero=>false
theorem cut_eq (way : Toward) (neg : Bool) (n d : Nat) : way.cut neg n d = n / 2 ^ d + (moreB way neg (n / 2 ^ d) (n % 2 ^ d) (2 ^ d)).toNat:=by
 unfold Toward.cut
 simp only [Nat.shiftLeft_eq,Nat.one_mul]
 by_cases h : d ≤ n.log2 + 2
 ·rw [Nat.min_eq_left h]; cases way <;> rfl
 ·rw [Nat.min_eq_right (by omega)]
  have h1 : n < 2 ^ (n.log2 + 1):=Nat.lt_log2_self
  have h2 : 2 ^ (n.log2 + 2) = 2 * 2 ^ (n.log2 + 1):=by rw [Nat.pow_succ]; omega
  have h3 : 2 ^ (n.log2 + 2) ≤ 2 ^ d:=Nat.pow_le_pow_right (by decide) (by omega)
  have q1 : n / 2 ^ (n.log2 + 2) = 0:=Nat.div_eq_of_lt (by omega)
  have q2 : n % 2 ^ (n.log2 + 2) = n:=Nat.mod_eq_of_lt (by omega)
  have q3 : n / 2 ^ d = 0:=Nat.div_eq_of_lt (by omega)
  have q4 : n % 2 ^ d = n:=Nat.mod_eq_of_lt (by omega)
  rw [q1,q2,q3,q4]
  have e1 : decide (2 ^ (n.log2 + 2) < 2 * n) = false:=decide_eq_false (by omega)
  have e2 : decide (2 ^ d < 2 * n) = false:=decide_eq_false (by omega)
  cases way <;> simp [moreB,e1,e2] <;> omega
theorem more_scale (way : Toward) (neg : Bool) (low rest gap k : Nat) (hk : 0 < k) : moreB way neg low (rest * k) (gap * k) = moreB way neg low rest gap:=by
 have e1 : (gap * k < 2 * (rest * k)) ↔ gap < 2 * rest:=by
  rw [← Nat.mul_assoc]; exact Nat.mul_lt_mul_right hk
 have e2 : (gap * k == 2 * (rest * k)) = (gap == 2 * rest):=by
  rw [← Nat.mul_assoc,Bool.eq_iff_iff,beq_iff_eq,beq_iff_eq]
  exact ⟨fun h=>Nat.eq_of_mul_eq_mul_right hk h,fun h=>by rw [h]⟩
 have e3 : (rest * k != 0) = (rest != 0):=by
  rcases Nat.eq_zero_or_pos rest with h | h
  ·rw [h,Nat.zero_mul]
  ·have h2:=Nat.mul_pos h hk
   rw [bne_iff_ne.2 (by omega),bne_iff_ne.2 (by omega)]
 cases way <;> simp only [moreB,e1,e2,e3]
theorem cut_scale (way : Toward) (neg : Bool) (n d k : Nat) : way.cut neg (n * 2 ^ k) (d + k) = way.cut neg n d:=by
 rw [cut_eq,cut_eq,Nat.pow_add]
 have hk : 0 < 2 ^ k:=Nat.two_pow_pos _
 rw [Nat.mul_div_mul_right _ _ hk,Nat.mul_mod_mul_right,more_scale _ _ _ _ _ _ hk]
theorem cut_zero (way : Toward) (neg : Bool) (n : Nat) : way.cut neg n 0 = n:=by
 rw [cut_eq]
 have : n % 2 ^ 0 = 0:=by rw [Nat.pow_zero]; omega
 rw [this,Nat.pow_zero,Nat.div_one]
 cases way <;> simp [moreB]
theorem log2_scale (m k : Nat) (hm : m ≠ 0) : (m * 2 ^ k).log2 = m.log2 + k:=by
 have hp : 0 < 2 ^ k:=Nat.two_pow_pos _
 have hne : m * 2 ^ k ≠ 0:=Nat.mul_ne_zero hm (by omega)
 have h1:=Nat.log2_self_le hm
 have h2:=@Nat.lt_log2_self m
 have h3 : m.log2 + k ≤ (m * 2 ^ k).log2:=(Nat.le_log2 hne).2 (by rw [Nat.pow_add]; exact Nat.mul_le_mul_right _ h1)
 have h4 : (m * 2 ^ k).log2 < m.log2 + k + 1:=(Nat.log2_lt hne).2 (by
  rw [show m.log2 + k + 1 = (m.log2 + 1) + k from by omega,Nat.pow_add]; exact Nat.mul_lt_mul_of_pos_right h2 hp)
 omega
theorem nearest_scale (s : Bool) (m k : Nat) (e : Int) : double.nearest s (m * 2 ^ k) (e - k) = double.nearest s m e:=by
 rcases Nat.eq_zero_or_pos m with rfl | hm
 ·simp [Format.nearest]
 have hm0 : m ≠ 0:=by omega
 have hk : 0 < 2 ^ k:=Nat.two_pow_pos _
 have hne : m * 2 ^ k ≠ 0:=Nat.mul_ne_zero hm0 (by omega)
 unfold Format.nearest
 rw [if_neg hne,if_neg hm0,log2_scale m k hm0]
 dsimp only
 rw [show e - (k : Int) + ((m.log2 + k : Nat) : Int) - (double.fractionBits : Int) = e + (m.log2 : Int) - (double.fractionBits : Int) from by omega]
 generalize max (e + (m.log2 : Int) - (double.fractionBits : Int)) double.leastPlace = last
 congr 3
 simp only [Nat.shiftLeft_eq]
 rcases Int.le_total last (e - k) with h | h
 ·rw [show (last - (e - (k : Int))).toNat = 0 from by omega,show (last - e).toNat = 0 from by omega,cut_zero,cut_zero,Nat.mul_assoc,← Nat.pow_add]
  congr 2; omega
 ·rcases Int.le_total last e with h2 | h2
  ·obtain ⟨a,ha⟩ : ∃ a : Nat,e - last = (a : Int):=⟨(e - last).toNat,by omega⟩
   obtain ⟨b,hb⟩ : ∃ b : Nat,last - (e - k) = (b : Int):=⟨(last - (e - k)).toNat,by omega⟩
   have hab : k = a + b:=by omega
   rw [show (e - (k : Int) - last).toNat = 0 from by omega,show (last - e).toNat = 0 from by omega,ha,hb,Int.toNat_natCast,Int.toNat_natCast,cut_zero,Nat.pow_zero,Nat.mul_one,hab,Nat.pow_add,← Nat.mul_assoc]
   have h:=cut_scale Toward.even s (m * 2 ^ a) 0 b
   rw [cut_zero,Nat.zero_add] at h
   exact h
  ·obtain ⟨b,hb⟩ : ∃ b : Nat,last - e = (b : Int):=⟨(last - e).toNat,by omega⟩
   rw [show (e - (k : Int) - last).toNat = 0 from by omega,show (e - last).toNat = 0 from by omega,show (last - (e - (k : Int))).toNat = b + k from by omega,hb,Int.toNat_natCast,Nat.pow_zero,Nat.mul_one,Nat.mul_one]
   exact cut_scale _ _ _ _ _
def CanF (m : Nat) (e : Int) : Prop:=m < 9007199254740992∧-1074 ≤ e∧e ≤ 971∧(4503599627370496 ≤ m ∨ e = -1074)
def wordF (s : Bool) (m : Nat) (e : Int) : Nat:=(if s then 9223372036854775808 else 0) + ((e + 1074).toNat * 4503599627370496 + m)
theorem nearest_can {s : Bool} {m : Nat} {e : Int} (h : CanF m e) : double.nearest s m e = wordF s m e:=by
 obtain ⟨h1,h2,h3,h4⟩:=h
 unfold Format.nearest wordF
 have hfb : double.fractionBits = 52:=rfl
 rw [d_lp,hfb,d_bin,d_inf]
 by_cases hm : m = 0
 ·subst hm
  obtain rfl : e = -1074:=h4.resolve_left (by omega)
  cases s <;> rfl
 ·rw [if_neg hm]
  dsimp only
  have hl : max (e + (m.log2 : Int) - (52 : Nat)) (-1074) = e:=by
   have l1 : m.log2 < 53:=(Nat.log2_lt hm).2 (by omega)
   rcases h4 with h4 | h4
   ·have l2 : 52 ≤ m.log2:=(Nat.le_log2 hm).2 (by omega)
    omega
   ·omega
  rw [hl,Int.sub_self,Int.toNat_zero,Nat.shiftLeft_zero,cut_zero,show e - -1074 = e + 1074 from by omega]
  have hb : (e + 1074).toNat ≤ 2045:=by omega
  generalize (e + 1074).toNat = k at hb ⊢
  have hle : k * 4503599627370496 + m ≤ 9218868437227405312:=by omega
  rw [Nat.min_eq_left hle]
  unfold Format.word
  rw [d_sw]
  cases s
  ·exact (Nat.zero_add _).symm
  ·rfl
theorem read_word {s : Bool} {m : Nat} {e : Int} (h : CanF m e) : double.read (wordF s m e) = .number s m e:=by
 obtain ⟨h1,h2,h3,h4⟩:=h
 obtain ⟨k,hk⟩ : ∃ k : Nat,e = k - 1074:=⟨(e + 1074).toNat,by omega⟩
 subst hk
 have hk2 : k ≤ 2045:=by omega
 unfold wordF Format.read
 rw [d_sw,d_bin,d_inf,d_lp]
 dsimp only
 rw [show ((k : Int) - 1074 + 1074).toNat = k from by omega]
 have hs : (((if s then 9223372036854775808 else 0) + (k * 4503599627370496 + m)) / 9223372036854775808 % 2 == 1) = s:=by
  cases s
  ·simp; omega
  ·simp; omega
 have hr : ((if s then 9223372036854775808 else 0) + (k * 4503599627370496 + m)) % 9223372036854775808 = k * 4503599627370496 + m:=by
  cases s
  ·simp; omega
  ·simp; omega
 rw [hs,hr]
 by_cases hsub : k * 4503599627370496 + m < 4503599627370496
 ·rw [if_pos hsub]
  obtain rfl : k = 0:=by omega
  simp
 ·rw [if_neg hsub,if_pos (by omega)]
  have hm : 4503599627370496 ≤ m:=by
   rcases h4 with h4 | h4
   ·exact h4
   ·omega
  congr 1 <;> omega
theorem word_of (b : Nat) (hb : b < 18446744073709551616) (hf : b % 9223372036854775808 < 9218868437227405312) :
  ∃ s m e,CanF m e∧b = wordF s m e:=by
 have hd : b / 9223372036854775808 < 2:=by omega
 refine ⟨b / 9223372036854775808 == 1,?_⟩
 have hsv : (if (b / 9223372036854775808 == 1) = true then 9223372036854775808 else 0) = b / 9223372036854775808 * 9223372036854775808:=by
  rcases (show b / 9223372036854775808 = 0 ∨ b / 9223372036854775808 = 1 from by omega) with h | h <;> rw [h] <;> rfl
 unfold wordF
 rw [hsv]
 by_cases h : b % 9223372036854775808 < 4503599627370496
 ·exact ⟨b % 9223372036854775808,-1074,⟨by omega,by omega,by omega,.inr rfl⟩,by simp; omega⟩
 ·refine ⟨4503599627370496 + b % 4503599627370496,(b % 9223372036854775808 / 4503599627370496 : Nat) - 1075,⟨by omega,by omega,by omega,.inl (by omega)⟩,?_⟩
  rw [show (((b % 9223372036854775808 / 4503599627370496 : Nat) : Int) - 1075 + 1074).toNat = b % 9223372036854775808 / 4503599627370496 - 1 from by omega]
  omega
theorem read_inf (b : Nat) (h : b % 9223372036854775808 = 9218868437227405312) : double.read b = .infinity (b / 9223372036854775808 % 2 == 1):=by
 unfold Format.read
 rw [d_sw,d_bin,d_inf]
 dsimp only
 rw [if_neg (by omega),if_neg (by omega),if_pos h]
theorem read_nan (b : Nat) (h : 9218868437227405312 < b % 9223372036854775808) : double.read b = .nan (b / 9223372036854775808 % 2 == 1) (b % 9223372036854775808 - 9218868437227405312):=by
 unfold Format.read
 rw [d_sw,d_bin,d_inf]
 dsimp only
 rw [if_neg (by omega),if_neg (by omega),if_neg (by omega)]
def nanW (b : Nat) : Prop:=9218868437227405312 < b % 9223372036854775808
instance (b : Nat) : Decidable (nanW b):=by unfold nanW; infer_instance
theorem order_self (b : Nat) (hb : b < 18446744073709551616) : double.order b b = if nanW b then none else some .eq:=by
 unfold Format.order
 by_cases h : nanW b
 ·rw [if_pos h,read_nan b h]; rfl
 ·rw [if_neg h]
  unfold nanW at h
  rcases Nat.lt_or_ge (b % 9223372036854775808) 9218868437227405312 with h2 | h2
  ·obtain ⟨s,m,e,hc,rfl⟩:=word_of b hb h2
   rw [read_word hc]
   simp [Datum.order,compare,compareOfLessAndEq]
  ·rw [read_inf b (by omega)]
   simp [Datum.order,compare,compareOfLessAndEq]
end LM
namespace LM
open Ieee Go
def sv (s : Bool) (m : Nat) (e : Int) : Int:=if s then -((m * 2 ^ (e + 1074).toNat : Nat) : Int) else ((m * 2 ^ (e + 1074).toNat : Nat) : Int)
theorem signed_eq (s : Bool) (m k : Nat) : signed s m k = if s then -((m * 2 ^ k : Nat) : Int) else ((m * 2 ^ k : Nat) : Int):=by
 unfold signed; rw [Nat.shiftLeft_eq]
theorem sv_scale (s : Bool) (m : Nat) (i base : Int) (h : base ≤ i) (hb : -1074 ≤ base) : sv s m i = signed s m (i - base).toNat * ((2 ^ (base + 1074).toNat : Nat) : Int):=by
 rw [signed_eq]
 unfold sv
 rw [show (i + 1074).toNat = (i - base).toNat + (base + 1074).toNat from by omega,Nat.pow_add,← Nat.mul_assoc]
 generalize m * 2 ^ (i - base).toNat = a
 generalize 2 ^ (base + 1074).toNat = b
 cases s
 ·simp
 ·simp [Int.neg_mul]
theorem compare_mul (a b c : Int) (hc : 0 < c) : compare (a * c) (b * c) = compare a b:=by
 show compareOfLessAndEq (a * c) (b * c) = compareOfLessAndEq a b
 unfold compareOfLessAndEq
 have h1 : (a * c < b * c) ↔ a < b:=Int.mul_lt_mul_right hc
 have h2 : (a * c = b * c) ↔ a = b:=Int.mul_eq_mul_right_iff (by omega)
 simp only [h1,h2]
theorem order_num {s t : Bool} {m n : Nat} {e j : Int} (h : CanF m e) (k : CanF n j) : double.order (wordF s m e) (wordF t n j) = some (compare (sv s m e) (sv t n j)):=by
 unfold Format.order
 rw [read_word h,read_word k]
 unfold Datum.order
 dsimp only
 rw [sv_scale s m e (min e j) (by omega) (by have:=h.2.1; have:=k.2.1; omega),sv_scale t n j (min e j) (by omega) (by have:=h.2.1; have:=k.2.1; omega)]
 have hp : 0 < 2 ^ (min e j + 1074).toNat:=Nat.two_pow_pos _
 rw [compare_mul _ _ _ (by omega)]
theorem cmp_gt (a b : Int) : (some (compare a b) == some Ordering.gt) = decide (b < a):=by
 show (some (compareOfLessAndEq a b) == some Ordering.gt) = _
 unfold compareOfLessAndEq
 by_cases h1 : a < b
 ·rw [if_pos h1,decide_eq_false (by omega)]; rfl
 ·rw [if_neg h1]
  by_cases h2 : a = b
  ·rw [if_pos h2,decide_eq_false (by omega)]; rfl
  ·rw [if_neg h2,decide_eq_true (by omega)]; rfl
theorem cmp_eq (a b : Int) : (some (compare a b) == some Ordering.eq) = decide (a = b):=by
 show (some (compareOfLessAndEq a b) == some Ordering.eq) = _
 unfold compareOfLessAndEq
 by_cases h1 : a < b
 ·rw [if_pos h1,decide_eq_false (by omega)]; rfl
 ·rw [if_neg h1]
  by_cases h2 : a = b
  ·rw [if_pos h2,decide_eq_true h2]; rfl
  ·rw [if_neg h2,decide_eq_false h2]; rfl
theorem word_f (s : Bool) (r : Nat) : double.word s r = (if s then 9223372036854775808 else 0) + r:=by
 unfold Format.word
 rw [d_sw]
 cases s <;> simp
theorem nearest_small (s : Bool) (M : Nat) (e : Int) (hM : M < 9007199254740992) (h0 : -1074 ≤ e) (h1 : e ≤ 971) :
  ∃ m' e',CanF m' e'∧double.nearest s M e = wordF s m' e'∧m' * 2 ^ (e' + 1074).toNat = M * 2 ^ (e + 1074).toNat∧e' ≤ e:=by
 rcases Nat.eq_zero_or_pos M with rfl | hp
 ·refine ⟨0,-1074,⟨by decide,by decide,by decide,.inr rfl⟩,?_,by simp,h0⟩
  unfold Format.nearest wordF
  rw [if_pos rfl,word_f]
  simp
 ·have hM0 : M ≠ 0:=by omega
  have l1 : M.log2 < 53:=(Nat.log2_lt hM0).2 (by omega)
  have l2:=Nat.log2_self_le hM0
  have l3:=@Nat.lt_log2_self M
  obtain ⟨k,hk⟩ : ∃ k,min (52 - M.log2) (e + 1074).toNat = k:=⟨_,rfl⟩
  have hk1 : k ≤ 52 - M.log2:=by omega
  have hk2 : k ≤ (e + 1074).toNat:=by omega
  have b1 : M * 2 ^ k < 9007199254740992:=by
   have : M * 2 ^ k < 2 ^ (M.log2 + 1) * 2 ^ k:=Nat.mul_lt_mul_of_pos_right l3 (Nat.two_pow_pos _)
   rw [← Nat.pow_add] at this
   have : 2 ^ (M.log2 + 1 + k) ≤ 2 ^ 53:=Nat.pow_le_pow_right (by decide) (by omega)
   omega
  have hc : CanF (M * 2 ^ k) (e - k):=by
   refine ⟨b1,by omega,by omega,?_⟩
   by_cases h : k = 52 - M.log2
   ·left
    have h1 : 2 ^ M.log2 * 2 ^ k ≤ M * 2 ^ k:=Nat.mul_le_mul_right _ l2
    rw [← Nat.pow_add,show M.log2 + k = 52 from by omega] at h1
    omega
   ·right; omega
  refine ⟨M * 2 ^ k,e - k,hc,?_,?_,by omega⟩
  ·rw [← nearest_scale s M k e]; exact nearest_can hc
  ·rw [Nat.mul_assoc,← Nat.pow_add]
   congr 2
   omega
theorem can_abs {s : Bool} {m : Nat} {e : Int} (h : CanF m e) : wordF s m e % 9223372036854775808 = wordF false m e:=by
 obtain ⟨h1,h2,h3,h4⟩:=h
 unfold wordF
 cases s <;> simp <;> omega
theorem can_nan {s : Bool} {m : Nat} {e : Int} (h : CanF m e) : ¬ nanW (wordF s m e):=by
 unfold nanW
 rw [can_abs h]
 obtain ⟨h1,h2,h3,h4⟩:=h
 unfold wordF
 simp
 omega
theorem sv_false (m : Nat) (e : Int) : sv false m e = ((m * 2 ^ (e + 1074).toNat : Nat) : Int):=rfl
theorem sv_true (m : Nat) (e : Int) : sv true m e = -((m * 2 ^ (e + 1074).toNat : Nat) : Int):=rfl
theorem sv_le_max {m : Nat} {e : Int} (h : CanF m e) : sv false m e ≤ sv false 9007199254740991 971:=by
 rw [sv_false,sv_false]
 have h1 : m * 2 ^ (e + 1074).toNat ≤ 9007199254740991 * 2 ^ ((971 : Int) + 1074).toNat:=Nat.mul_le_mul (by have:=h.1; omega) (Nat.pow_le_pow_right (by decide) (by have:=h.2.2.1; omega))
 exact Int.ofNat_le.2 h1
theorem can_pinf {s : Bool} {m : Nat} {e : Int} (h : CanF m e) : (FloatKind.f64.format.order (wordF s m e) 9218868437227405311 == some .gt) = false:=by
 rw [d_fmt,show 9218868437227405311 = wordF false 9007199254740991 971 from by decide,order_num h (by unfold CanF; decide),cmp_gt]
 refine decide_eq_false ?_
 have:=sv_le_max h
 cases s
 ·omega
 ·rw [sv_true]
  rw [sv_false] at this
  rw [sv_false]
  omega
theorem xor_top (x : Nat) (hx : x < 9223372036854775808) : x ^^^ 2 ^ 63 = 9223372036854775808 + x:=by
 rw [← nat_join 63 9223372036854775808 x (by decide) hx,show 9223372036854775808 = 2 ^ 63 from by decide]
 apply Nat.eq_of_testBit_eq
 intro i
 rw [Nat.testBit_xor,Nat.testBit_or,Nat.testBit_two_pow]
 by_cases h : 63 = i
 ·subst h
  rw [Nat.testBit_lt_two_pow (show x < 2 ^ 63 from hx)]
  rfl
 ·rw [decide_eq_false h]
  simp
theorem neg_word {s : Bool} {m : Nat} {e : Int} (h : CanF m e) : Op.negFloat .f64 (wordF s m e) = wordF (!s) m e:=by
 unfold Op.negFloat
 obtain ⟨h1,h2,h3,h4⟩:=h
 unfold wordF
 have hl : (e + 1074).toNat * 4503599627370496 + m < 9223372036854775808:=by omega
 generalize (e + 1074).toNat * 4503599627370496 + m = x at hl ⊢
 show _ ^^^ 2 ^ 63 = _
 cases s
 ·simp only [Bool.false_eq_true,if_false,Nat.zero_add,Bool.not_false,if_true]
  exact xor_top x hl
 ·simp only [Bool.false_eq_true,if_false,Nat.zero_add,Bool.not_true,if_true]
  rw [← xor_top x hl,Nat.xor_assoc,Nat.xor_self,Nat.xor_zero]
theorem can_minf {s : Bool} {m : Nat} {e : Int} (h : CanF m e) : (FloatKind.f64.format.order (Op.negFloat .f64 (wordF s m e)) 9218868437227405311 == some .gt) = false:=by
 rw [neg_word h]
 exact can_pinf h
theorem sv_zero (s : Bool) (m : Nat) (e : Int) : sv s m e = 0 ↔ m = 0:=by
 have hp : 0 < 2 ^ (e + 1074).toNat:=Nat.two_pow_pos _
 have h1 : m * 2 ^ (e + 1074).toNat = 0 ↔ m = 0:=by
  rw [Nat.mul_eq_zero]
  omega
 cases s
 ·rw [sv_false]; omega
 ·rw [sv_true]; omega
theorem canf_zero {s : Bool} {m : Nat} {e : Int} (h : CanF m e) : (FloatKind.f64.format.order (wordF s m e) 0 == some .eq) = decide (m = 0):=by
 rw [d_fmt,show (0 : Nat) = wordF false 0 (-1074) from by decide,order_num h (by unfold CanF; decide),cmp_eq,show sv false 0 (-1074) = 0 from by decide]
 rw [decide_eq_decide]
 exact sv_zero s m e
end LM
end Go.Proofs.YtaonablbgicmpaaGreatDoor
