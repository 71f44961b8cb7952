import Derived.Test.YtihbgghlnppkiaaGreatDoorR28
import Derived.Laws.BitsAllLaws
import GoSem.Extern.MathFloor
set_option linter.unusedVariables false
set_option linter.unusedSimpArgs false
set_option maxRecDepth 100000
set_option maxHeartbeats 16000000
namespace Go.Proofs.YtihbgghlnppkiaaGreatDoor
namespace LM
open Ieee Go
def sv (s : Bool) (m : Nat) (e : Int) : Int:=if s then -((m * 2 ^ (e + 1074).toNat : Nat) : Int) else ((m * 2 ^ (e + 1074).toNat : Nat) : Int)
theorem signed_eq (s : Bool) (m k : Nat) : signed s m k = if s then -((m * 2 ^ k : Nat) : Int) else ((m * 2 ^ k : Nat) : Int):=by
  unfold signed; rw [Nat.shiftLeft_eq]
theorem sv_scale (s : Bool) (m : Nat) (i base : Int) (h : base ≤ i) (hb : -1074 ≤ base) : sv s m i = signed s m (i - base).toNat * ((2 ^ (base + 1074).toNat : Nat) : Int):=by
  rw [signed_eq]
  unfold sv
  rw [show (i + 1074).toNat = (i - base).toNat + (base + 1074).toNat from by omega,Nat.pow_add,← Nat.mul_assoc]
  generalize m * 2 ^ (i - base).toNat = a
  generalize 2 ^ (base + 1074).toNat = b
  cases s
  · simp
  · simp [Int.neg_mul]
theorem compare_mul (a b c : Int) (hc : 0 < c) : compare (a * c) (b * c) = compare a b:=by
  show compareOfLessAndEq (a * c) (b * c) = compareOfLessAndEq a b
  unfold compareOfLessAndEq
  have h1 : (a * c < b * c) ↔ a < b:=Int.mul_lt_mul_right hc
  have h2 : (a * c = b * c) ↔ a = b:=Int.mul_eq_mul_right_iff (by omega)
  simp only [h1,h2]
theorem order_num {s t : Bool} {m n : Nat} {e j : Int} (h : CanF m e) (k : CanF n j) : double.order (wordF s m e) (wordF t n j) = some (compare (sv s m e) (sv t n j)):=by
  unfold Format.order
  rw [read_word h,read_word k]
  unfold Datum.order
  dsimp only
  rw [sv_scale s m e (min e j) (by omega) (by have:=h.2.1; have:=k.2.1; omega),sv_scale t n j (min e j) (by omega) (by have:=h.2.1; have:=k.2.1; omega)]
  have hp : 0 < 2 ^ (min e j + 1074).toNat:=Nat.two_pow_pos _
  rw [compare_mul _ _ _ (by omega)]
theorem cmp_gt (a b : Int) : (some (compare a b) == some Ordering.gt) = decide (b < a):=by
  show (some (compareOfLessAndEq a b) == some Ordering.gt) = _
  unfold compareOfLessAndEq
  by_cases h1 : a < b
  · rw [if_pos h1,decide_eq_false (by omega)]; rfl
  · rw [if_neg h1]
    by_cases h2 : a = b
    · rw [if_pos h2,decide_eq_false (by omega)]; rfl
    · rw [if_neg h2,decide_eq_true (by omega)]; rfl
theorem cmp_eq (a b : Int) : (some (compare a b) == some Ordering.eq) = decide (a = b):=by
  show (some (compareOfLessAndEq a b) == some Ordering.eq) = _
  unfold compareOfLessAndEq
  by_cases h1 : a < b
  · rw [if_pos h1,decide_eq_false (by omega)]; rfl
  · rw [if_neg h1]
    by_cases h2 : a = b
    · rw [if_pos h2,decide_eq_true h2]; rfl
    · rw [if_neg h2,decide_eq_false h2]; rfl
theorem word_f (s : Bool) (r : Nat) : double.word s r = (if s then 9223372036854775808 else 0) + r:=by
  unfold Format.word
  rw [d_sw]
  cases s <;> simp
theorem nearest_small (s : Bool) (M : Nat) (e : Int) (hM : M < 9007199254740992) (h0 : -1074 ≤ e) (h1 : e ≤ 971) :
    ∃ m' e',CanF m' e'∧double.nearest s M e = wordF s m' e'∧m' * 2 ^ (e' + 1074).toNat = M * 2 ^ (e + 1074).toNat∧e' ≤ e:=by
  rcases Nat.eq_zero_or_pos M with rfl | hp
  · refine ⟨0,-1074,⟨by decide,by decide,by decide,.inr rfl⟩,?_,by simp,h0⟩
    unfold Format.nearest wordF
    rw [if_pos rfl,word_f]
    simp
  · have hM0 : M ≠ 0:=by omega
    have l1 : M.log2 < 53:=(Nat.log2_lt hM0).2 (by omega)
    have l2:=Nat.log2_self_le hM0
    have l3:=@Nat.lt_log2_self M
    obtain ⟨k,hk⟩ : ∃ k,min (52 - M.log2) (e + 1074).toNat = k:=⟨_,rfl⟩
    have hk1 : k ≤ 52 - M.log2:=by omega
    have hk2 : k ≤ (e + 1074).toNat:=by omega
    have b1 : M * 2 ^ k < 9007199254740992:=by
      have : M * 2 ^ k < 2 ^ (M.log2 + 1) * 2 ^ k:=Nat.mul_lt_mul_of_pos_right l3 (Nat.two_pow_pos _)
      rw [← Nat.pow_add] at this
      have : 2 ^ (M.log2 + 1 + k) ≤ 2 ^ 53:=Nat.pow_le_pow_right (by decide) (by omega)
      omega
    have hc : CanF (M * 2 ^ k) (e - k):=by
      refine ⟨b1,by omega,by omega,?_⟩
      by_cases h : k = 52 - M.log2
      · left
        have h1 : 2 ^ M.log2 * 2 ^ k ≤ M * 2 ^ k:=Nat.mul_le_mul_right _ l2
        rw [← Nat.pow_add,show M.log2 + k = 52 from by omega] at h1
        omega
      · right; omega
    refine ⟨M * 2 ^ k,e - k,hc,?_,?_,by omega⟩
    · rw [← nearest_scale s M k e]; exact nearest_can hc
    · rw [Nat.mul_assoc,← Nat.pow_add]
      congr 2
      omega
theorem can_abs {s : Bool} {m : Nat} {e : Int} (h : CanF m e) : wordF s m e % 9223372036854775808 = wordF false m e:=by
  obtain ⟨h1,h2,h3,h4⟩:=h
  unfold wordF
  cases s <;> simp <;> omega
theorem can_nan {s : Bool} {m : Nat} {e : Int} (h : CanF m e) : ¬ nanW (wordF s m e):=by
  unfold nanW
  rw [can_abs h]
  obtain ⟨h1,h2,h3,h4⟩:=h
  unfold wordF
  simp
  omega
theorem sv_false (m : Nat) (e : Int) : sv false m e = ((m * 2 ^ (e + 1074).toNat : Nat) : Int):=rfl
theorem sv_true (m : Nat) (e : Int) : sv true m e = -((m * 2 ^ (e + 1074).toNat : Nat) : Int):=rfl
theorem sv_le_max {m : Nat} {e : Int} (h : CanF m e) : sv false m e ≤ sv false 9007199254740991 971:=by
  rw [sv_false,sv_false]
  have h1 : m * 2 ^ (e + 1074).toNat ≤ 9007199254740991 * 2 ^ ((971 : Int) + 1074).toNat:=Nat.mul_le_mul (by have:=h.1; omega) (Nat.pow_le_pow_right (by decide) (by have:=h.2.2.1; omega))
  exact Int.ofNat_le.2 h1
theorem can_pinf {s : Bool} {m : Nat} {e : Int} (h : CanF m e) : (FloatKind.f64.format.order (wordF s m e) 9218868437227405311 == some .gt) = false:=by
  rw [d_fmt,show 9218868437227405311 = wordF false 9007199254740991 971 from by decide,order_num h (by unfold CanF; decide),cmp_gt]
  refine decide_eq_false ?_
  have:=sv_le_max h
  cases s
  · omega
  · rw [sv_true]
    rw [sv_false] at this
    rw [sv_false]
    omega
theorem xor_top (x : Nat) (hx : x < 9223372036854775808) : x ^^^ 2 ^ 63 = 9223372036854775808 + x:=by
  rw [← nat_join 63 9223372036854775808 x (by decide) hx,show 9223372036854775808 = 2 ^ 63 from by decide]
  apply Nat.eq_of_testBit_eq
  intro i
  rw [Nat.testBit_xor,Nat.testBit_or,Nat.testBit_two_pow]
  by_cases h : 63 = i
  · subst h
    rw [Nat.testBit_lt_two_pow (show x < 2 ^ 63 from hx)]
    rfl
  · rw [decide_eq_false h]
    simp
theorem neg_word {s : Bool} {m : Nat} {e : Int} (h : CanF m e) : Op.negFloat .f64 (wordF s m e) = wordF (!s) m e:=by
  unfold Op.negFloat
  obtain ⟨h1,h2,h3,h4⟩:=h
  unfold wordF
  have hl : (e + 1074).toNat * 4503599627370496 + m < 9223372036854775808:=by omega
  generalize (e + 1074).toNat * 4503599627370496 + m = x at hl ⊢
  show _ ^^^ 2 ^ 63 = _
  cases s
  · simp only [Bool.false_eq_true,if_false,Nat.zero_add,Bool.not_false,if_true]
    exact xor_top x hl
  · simp only [Bool.false_eq_true,if_false,Nat.zero_add,Bool.not_true,if_true]
    rw [← xor_top x hl,Nat.xor_assoc,Nat.xor_self,Nat.xor_zero]
theorem can_minf {s : Bool} {m : Nat} {e : Int} (h : CanF m e) : (FloatKind.f64.format.order (Op.negFloat .f64 (wordF s m e)) 9218868437227405311 == some .gt) = false:=by
  rw [neg_word h]
  exact can_pinf h
theorem sv_zero (s : Bool) (m : Nat) (e : Int) : sv s m e = 0 ↔ m = 0:=by
  have hp : 0 < 2 ^ (e + 1074).toNat:=Nat.two_pow_pos _
  have h1 : m * 2 ^ (e + 1074).toNat = 0 ↔ m = 0:=by
    rw [Nat.mul_eq_zero]
    omega
  cases s
  · rw [sv_false]; omega
  · rw [sv_true]; omega
theorem canf_zero {s : Bool} {m : Nat} {e : Int} (h : CanF m e) : (FloatKind.f64.format.order (wordF s m e) 0 == some .eq) = decide (m = 0):=by
  rw [d_fmt,show (0 : Nat) = wordF false 0 (-1074) from by decide,order_num h (by unfold CanF; decide),cmp_eq,show sv false 0 (-1074) = 0 from by decide]
  rw [decide_eq_decide]
  exact sv_zero s m e
end LM
end Go.Proofs.YtihbgghlnppkiaaGreatDoor
