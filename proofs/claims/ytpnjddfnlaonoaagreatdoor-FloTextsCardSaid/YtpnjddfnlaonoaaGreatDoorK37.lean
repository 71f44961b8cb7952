/- Walks of the document: the text of any number. -/
import Derived.Test.YtpnjddfnlaonoaaGreatDoorK23
import Derived.Test.YtpnjddfnlaonoaaGreatDoorK33
import Derived.Test.YtpnjddfnlaonoaaGreatDoorK36
import Derived.Test.YtpnjddfnlaonoaaGreatDoorK20
import Derived.Test.YtpnjddfnlaonoaaGreatDoorK38
import Derived.Lib.Atoi
import Derived.Lib.ItoaNum
namespace Go.Proofs.YtpnjddfnlaonoaaGreatDoor
open Go Go.RowKit
namespace LM
set_option linter.unusedVariables false

set_option maxRecDepth 100000 in
set_option maxHeartbeats 4000000 in
theorem falive_any (w : World) (hv : FV w) :
    Calls Tryz.prog 8 #[] w fun e w' => e = .returned (.bool true) ∧ Below w.heap.size w w' := by
  have P1 := Lib.hid (floparse_15 w hv)
  have HV := Lib.hid hv
  have E1 := Lib.hid floexact_150
  have T1 := Lib.hid text_100
  have T2 := Lib.hid text_e21
  have T3 := Lib.hid text_m4
  have R1 := Lib.hid rtext_150
  have O1 := Lib.hid floof_150
  have o1 : (FloatKind.f64.format.order M150 M150 == some .eq) = true := by decide
  have c1 : ((⟨#[49, 48, 48, 46, 48]⟩ : ByteArray).toList == [49, 48, 48, 46, 48]) = true := by rw [Go.ByteArray.toList_eq]; rfl
  have c2 : ((⟨#[49, 46, 48, 101, 50, 49]⟩ : ByteArray).toList == [49, 46, 48, 101, 50, 49]) = true := by rw [Go.ByteArray.toList_eq]; rfl
  have c3 : ((⟨#[49, 46, 48, 101, 45, 52]⟩ : ByteArray).toList == [49, 46, 48, 101, 45, 52]) = true := by rw [Go.ByteArray.toList_eq]; rfl
  have c4 : ((⟨#[45, 49, 53, 48]⟩ : ByteArray).toList == [45, 49, 53, 48]) = true := by rw [Go.ByteArray.toList_eq]; rfl
  clear hv
  go_enter Tryz.func8, Tryz.ntmps8
  go_wp2_with (fail)
  refine P1.out.mono ?_
  rintro e w1 ⟨rfl, hb1⟩
  have HB1 := Lib.hid hb1
  clear hb1
  go_wp2_with (fail)
  refine (E1.out _).mono ?_
  rintro e w2 ⟨s2, A2, n2, c2', er, rfl, hcase, hb2⟩
  obtain ⟨rfl, hv2⟩ : er = 0 ∧ IntV w2 (.agg #[.bool s2, .slice A2 n2 c2']) (-150) := by
    rcases hcase with ⟨h, _⟩ | ⟨_, h1, h2⟩
    · exact absurd h (small_not_big (by decide))
    · exact ⟨h1, h2⟩
  have HV2 := Lib.hid hv2
  have HB2 := Lib.hid (HB1.out.trans (hb2.mono HB1.out.size))
  clear hcase hv2 hb2
  have X2 := Lib.hid (Bx.new w2 s2 A2 n2 c2')
  have V2 := Lib.hid (HV2.out.alloc (.cells #[.bool s2, .slice A2 n2 c2'] 36))
  have HB3 : Hid (Below w.heap.size w (w2.alloc (.cells #[.bool s2, .slice A2 n2 c2'] 36))) := Lib.hid (HB2.out.alloc HB2.out.size _)
  go_wp2_with (fail)
  refine (T1.out _ (HV.out.below HB3.out)).mono ?_
  rintro e w4 ⟨rfl, hb4⟩
  have X4 := Lib.hid (X2.out.below hb4)
  have V4 := Lib.hid (V2.out.keep hb4)
  have HB4 := Lib.hid (bel_trans (B := w.heap.size) HB3.out hb4)
  clear hb4
  go_wp2_with (fail)
  refine (T2.out _ (HV.out.below HB4.out)).mono ?_
  rintro e w5 ⟨rfl, hb5⟩
  have X5 := Lib.hid (X4.out.below hb5)
  have V5 := Lib.hid (V4.out.keep hb5)
  have HB5 := Lib.hid (bel_trans (B := w.heap.size) HB4.out hb5)
  clear hb5
  go_wp2_with (fail)
  refine (T3.out _ (HV.out.below HB5.out)).mono ?_
  rintro e w6 ⟨rfl, hb6⟩
  have X6 := Lib.hid (X5.out.below hb6)
  have V6 := Lib.hid (V5.out.keep hb6)
  have HB6 := Lib.hid (bel_trans (B := w.heap.size) HB5.out hb6)
  clear hb6
  obtain ⟨q0, q1, -, -, ql⟩ := X6.out.facts
  go_wp2_with (fail)
  refine (R1.out _ _ V6.out).mono ?_
  rintro e w7 ⟨rfl, hb7⟩
  have X7 := Lib.hid (X6.out.below hb7)
  have V7 := Lib.hid (V6.out.keep hb7)
  have HB7 := Lib.hid (bel_trans (B := w.heap.size) HB6.out hb7)
  clear hb7 q0 q1 ql
  obtain ⟨q0, q1, -, -, ql⟩ := X7.out.facts
  go_wp2_with (fail)
  refine (O1.out _ _ V7.out).mono ?_
  rintro e w8 ⟨rfl, hb8⟩
  have HB8 := Lib.hid (bel_trans (B := w.heap.size) HB7.out hb8)
  clear hb8 q0 q1 ql
  go_wp2
  go_ret
  exact ⟨rfl, HB8.out⟩

end LM
end Go.Proofs.YtpnjddfnlaonoaaGreatDoor

namespace Go.Proofs.YtpnjddfnlaonoaaGreatDoor
open Go Go.Shelf Go.RowKit Go.Sort Go.Lib
namespace LM
set_option linter.unusedVariables false

set_option maxRecDepth 100000 in
set_option maxHeartbeats 4000000 in
theorem ftoaF_mzero (b B : Nat) (W0 : World) (v : Value) (w : World) (hbe : b = 9223372036854775808) (hob : OB B W0 0 [] v [] w) :
    Calls Tryz.prog 163 #[v, .float .f64 b, .int .u8 102, .int .i64 (-1)] w fun r w' =>
      ∃ v' g ds, r = .returned v' ∧ OB B W0 g ds v' (fmtF true [] 0) w' := by
  obtain ⟨bq, hbq⟩ : ∃ q, b / 4503599627370496 = q := ⟨_, rfl⟩
  have hbqi : (b : Int) / 4503599627370496 = (bq : Int) := by omega
  have hbql : bq < 4096 := by omega
  have hex2 : bits .and .i64 (bq : Int) 2047 = 0 := by
    have h := i64_and_nat bq 2047 (by omega) (by decide)
    have h2 : bq &&& 2047 = 0 := by rw [nat_mask11]; omega
    rw [h2] at h
    exact h
  have hfr2 : bits .and .u64 (b : Int) 4503599627370495 = 0 := by
    have h := u64_and_nat b 4503599627370495 (by omega) (by decide)
    have h2 : b &&& 4503599627370495 = 0 := by
      rw [show b &&& 4503599627370495 = b % 2 ^ 52 from Nat.and_two_pow_sub_one_eq_mod b 52]
      omega
    rw [h2] at h
    exact h
  have hneg2 : ((b : Int) / 9223372036854775808 != 0) = true := by
    rw [bne_iff_ne]; omega
  have RB := run_sbits b
  have FZ := Lib.hid fun k => fmtF_zero B W0 v [] (w.drewN k) true 0 (hob.drewN k) (by decide)
  clear hbe hbq hob
  go_enter Tryz.func163, Tryz.ntmps163
  go_wp2_with (fail)
  go_quiet (fail)
  go_wp2_with (fail)
  refine (FZ.out _).mono ?_
  rintro r w4 ⟨v4, rfl, hob4⟩
  go_wp2
  go_ret
  exact ⟨_, _, _, rfl, hob4⟩

end LM
end Go.Proofs.YtpnjddfnlaonoaaGreatDoor

namespace Go.Proofs.YtpnjddfnlaonoaaGreatDoor
open Go Go.Shelf Go.RowKit Go.Sort Go.Lib
namespace LM
set_option linter.unusedVariables false

set_option maxRecDepth 100000 in
theorem atoi_all : ((List.range 1999).all fun i => decide (Lib.atoi (expB ((i : Int) - 999)) = some ((i : Int) - 999))) = true := by decide +kernel
theorem atoi_exp {x : Int} (h0 : -999 ≤ x) (h1 : x ≤ 999) : Lib.atoi (expB x) = some x := by
  have h := List.all_eq_true.1 atoi_all (x + 999).toNat (List.mem_range.2 (by omega))
  have e : (((x + 999).toNat : Nat) : Int) - 999 = x := by omega
  rw [e] at h
  exact of_decide_eq_true h

/-- what stands before the e -/
abbrev preE (neg : Bool) (D : List UInt8) : List UInt8 := signB neg ++ (D.take 1 ++ restB D)
theorem fmtE_split (neg : Bool) (D : List UInt8) (dp : Int) : fmtE neg D dp = preE neg D ++ 101 :: expB (dp - 1) := by
  unfold fmtE
  simp [List.append_assoc]
theorem sign_mem {neg : Bool} {x : UInt8} (h : x ∈ signB neg) : x = 45 := by
  unfold signB at h
  cases neg <;> simp at h
  exact h
theorem pre_mem {neg : Bool} {D : List UInt8} {x : UInt8} (h : x ∈ preE neg D) : x = 45 ∨ x = 46 ∨ x ∈ D := by
  rcases List.mem_append.1 h with h | h
  · exact .inl (sign_mem h)
  · rcases List.mem_append.1 h with h | h
    · exact .inr (.inr (List.mem_of_mem_take h))
    · unfold restB at h
      split at h
      · cases h
      · rcases List.mem_cons.1 h with h | h
        · exact .inr (.inl h)
        · exact .inr (.inr (List.mem_of_mem_drop h))
theorem pre_e {neg : Bool} {D : List UInt8} {dp : Int} (h : FinT D dp) : 101 ∉ preE neg D := fun hm => by
  rcases pre_mem hm with h2 | h2 | h2
  · cases h2
  · cases h2
  · have := h.dig _ h2
    have e : (101 : UInt8).toNat = 101 := rfl
    omega
theorem pre_len {neg : Bool} {D : List UInt8} {dp : Int} (h : FinT D dp) : (preE neg D).length ≤ 22 ∧ preE neg D ≠ [] := by
  have h1 := h.le
  have h2 := h.ne
  have hs : (signB neg).length ≤ 1 := by unfold signB; cases neg <;> simp
  have hr : (restB D).length ≤ 20 := by
    unfold restB
    split
    · simp
    · simp; omega
  refine ⟨by rw [List.length_append, List.length_append, List.length_take]; omega, fun e => ?_⟩
  have h5 : (signB neg ++ (D.take 1 ++ restB D)).length = 0 := by
    rw [show signB neg ++ (D.take 1 ++ restB D) = [] from e]
    rfl
  rw [List.length_append, List.length_append, List.length_take] at h5
  omega
theorem exp_len (x : Int) : (expB x).length ≤ 4 := by
  unfold expB
  simp only [List.length_cons]
  split
  · simp
  · split <;> simp
theorem fmtF_len {neg : Bool} {D : List UInt8} {dp : Int} (h : FinT D dp) : (fmtF neg D dp).length ≤ 1000 ∧ fmtF neg D dp ≠ [] := by
  have h1 := h.le
  have h2 := h.ne
  have h3 := h.dp
  have hs : (signB neg).length ≤ 1 := by unfold signB; cases neg <;> simp
  have hi : (intB D dp).length ≤ 420 ∧ 1 ≤ (intB D dp).length := by
    unfold intB
    split
    · rw [List.length_append, List.length_take, List.length_replicate]; omega
    · simp
  have hf : (fracB D dp).length ≤ 430 := by
    unfold fracB
    split
    · simp
    · rw [List.length_cons, List.length_append, List.length_replicate, List.length_drop]; omega
  unfold fmtF
  refine ⟨by rw [List.length_append, List.length_append]; omega, fun e => ?_⟩
  have h5 : (signB neg ++ (intB D dp ++ fracB D dp)).length = 0 := by
    rw [e]
    rfl
  rw [List.length_append, List.length_append] at h5
  omega

/-- a finite number against the ends of the forms -/
theorem fin_facts (b a : Nat) (hb : b < 18446744073709551616) (ha : b % 9223372036854775808 = a) (hfin : a < 9218868437227405312) :
    ¬ nanW b ∧ (FloatKind.f64.format.order b 9218868437227405311 == some .gt) = false ∧ (FloatKind.f64.format.order (Op.negFloat .f64 b) 9218868437227405311 == some .gt) = false ∧ (FloatKind.f64.format.order a 0 == some .eq) = decide (a = 0) := by
  obtain ⟨s, m, e, hc, rfl⟩ := word_of b hb (by omega)
  refine ⟨can_nan hc, can_pinf hc, can_minf hc, ?_⟩
  rw [can_abs hc] at ha
  subst ha
  rw [canf_zero hc]
  obtain ⟨h1, h2, h3, h4⟩ := hc
  rw [decide_eq_decide]
  unfold wordF
  simp
  omega
theorem small_facts (a : Nat) (h : a < 4503599627370496) : (FloatKind.f64.format.order a 4562254508917369340 == some .gt || FloatKind.f64.format.order a 4562254508917369340 == some .eq) = false := by
  have hc : CanF a (-1074) := ⟨by omega, by omega, by omega, .inr rfl⟩
  have e : a = wordF false a (-1074) := by unfold wordF; simp
  have hk : CanF 4611686018427388 (-62) := by unfold CanF; decide
  have hlt : sv false a (-1074) < sv false 4611686018427388 (-62) := by
    rw [sv_false, sv_false]
    have h2 : 4611686018427388 * 1 ≤ 4611686018427388 * 2 ^ ((-62 : Int) + 1074).toNat := Nat.mul_le_mul_left _ (Nat.pow_pos (by decide))
    have h3 : a * 2 ^ ((-1074 : Int) + 1074).toNat = a := by rw [show ((-1074 : Int) + 1074).toNat = 0 from by decide]; simp
    rw [h3]
    generalize 4611686018427388 * 2 ^ ((-62 : Int) + 1074).toNat = z at h2
    omega
  have ho : FloatKind.f64.format.order a 4562254508917369340 = some (compare (sv false a (-1074)) (sv false 4611686018427388 (-62))) := by
    have h2 := order_num (s := false) (t := false) hc hk
    rw [← e, show wordF false 4611686018427388 (-62) = 4562254508917369340 from by decide] at h2
    exact h2
  rw [ho, cmp_gt, cmp_eq, decide_eq_false (by omega), decide_eq_false (by omega)]
  rfl

/-- which of the two forms -/
abbrev FormF (a : Nat) : Prop := (FloatKind.f64.format.order a 4562254508917369340 == some .gt || FloatKind.f64.format.order a 4562254508917369340 == some .eq) = true ∧ (FloatKind.f64.format.order a 4921056587992461136 == some .lt) = true
abbrev FormE (a : Nat) : Prop := (FloatKind.f64.format.order a 4562254508917369340 == some .gt || FloatKind.f64.format.order a 4562254508917369340 == some .eq) = false ∨ ((FloatKind.f64.format.order a 4562254508917369340 == some .gt || FloatKind.f64.format.order a 4562254508917369340 == some .eq) = true ∧ (FloatKind.f64.format.order a 4921056587992461136 == some .lt) = false)
theorem form_or (a : Nat) : FormF a ∨ FormE a := by
  unfold FormF FormE
  generalize (FloatKind.f64.format.order a 4562254508917369340 == some .gt || FloatKind.f64.format.order a 4562254508917369340 == some .eq) = x
  generalize (FloatKind.f64.format.order a 4921056587992461136 == some .lt) = y
  cases x <;> cases y <;> simp

theorem ftext_e (b a : Nat) (neg : Bool) (D : List UInt8) (dp : Int) (hf : FinT D dp) (hb : b < 18446744073709551616) (ha : b % 9223372036854775808 = a) (hfin : a < 9218868437227405312) (h0 : a ≠ 0) (hz : FormE a) (hok : FtoaOk b 101 (fmtE neg D dp)) (w : World) (hv : FV w) :
    Calls Tryz.prog 12 #[.float .f64 b] w fun e w' => e = .returned (.string ⟨(pointB (preE neg D) ++ 101 :: Lib.itoa (dp - 1)).toArray⟩) ∧ Below w.heap.size w w' := by
  obtain ⟨f1, f2, f3, f4⟩ := fin_facts b a hb ha hfin
  rw [decide_eq_false h0] at f4
  have h4 := hf.dp
  obtain ⟨p1, p2⟩ := pre_len (neg := neg) hf
  exact flotext_e b a (fmtE neg D dp) (preE neg D) (expB (dp - 1)) (dp - 1) w hb ha f1 f2 f3 f4 hz (by rw [fmtE_split, List.length_append, List.length_cons]; have := exp_len (dp - 1); omega) (fmtE_split _ _ _) (pre_e hf) (by have := exp_len (dp - 1); omega) (atoi_exp (by omega) (by omega)) (by omega) hv.tab (hok w hv)
theorem ftext_f (b a : Nat) (neg : Bool) (D : List UInt8) (dp : Int) (hf : FinT D dp) (hb : b < 18446744073709551616) (ha : b % 9223372036854775808 = a) (hfin : a < 9218868437227405312) (h0 : a ≠ 0) (hz : FormF a) (hok : FtoaOk b 102 (fmtF neg D dp)) (w : World) (hv : FV w) :
    Calls Tryz.prog 12 #[.float .f64 b] w fun e w' => e = .returned (.string ⟨(pointB (fmtF neg D dp)).toArray⟩) ∧ Below w.heap.size w w' := by
  obtain ⟨f1, f2, f3, f4⟩ := fin_facts b a hb ha hfin
  rw [decide_eq_false h0] at f4
  obtain ⟨p1, p2⟩ := fmtF_len (neg := neg) hf
  exact flotext_f b a (fmtF neg D dp) w hb ha f1 f2 f3 (.inr ⟨f4, hz.1, hz.2⟩) (by omega) p2 (hok w hv)

end LM
end Go.Proofs.YtpnjddfnlaonoaaGreatDoor

namespace Go.Proofs.YtpnjddfnlaonoaaGreatDoor
open Go Go.Shelf Go.RowKit Go.Sort Go.Lib
namespace LM
set_option linter.unusedVariables false

/-- is there a point in it -/
def dotB (l : List UInt8) : Bool := match l with
  | [] => false
  | c :: r => decide (c.toNat = 46) || dotB r
theorem dot_iff : ∀ (l : List UInt8), dotB l = decide (46 ∈ l)
  | [] => by simp [dotB]
  | c :: r => by
    unfold dotB
    rw [dot_iff r]
    have h : c.toNat = 46 ↔ c = 46 := ⟨fun h => UInt8.toNat_inj.1 h, fun h => by rw [h]; rfl⟩
    by_cases hc : c = 46
    · subst hc; simp
    · have h2 : ¬ c.toNat = 46 := fun h3 => hc (h.1 h3)
      rw [decide_eq_false h2, Bool.false_or, decide_eq_decide]
      constructor
      · exact fun h4 => List.mem_cons_of_mem _ h4
      · intro h4
        rcases List.mem_cons.1 h4 with h5 | h5
        · exact absurd h5.symm hc
        · exact h5
theorem point_dot (l : List UInt8) : pointB l = if dotB l = true then l else l ++ [46, 48] := by
  unfold pointB
  rw [dot_iff]
  by_cases h : 46 ∈ l
  · rw [if_pos h, if_pos (decide_eq_true h)]
  · rw [if_neg h, if_neg (by simpa using h)]

theorem dec_three {u : Nat} (h1 : ¬ u < 100) (h2 : u < 1000) : decDigits u = [UInt8.ofNat (48 + u / 100), UInt8.ofNat (48 + u / 10 % 10), UInt8.ofNat (48 + u % 10)] := by
  have e : decDigits u = decDigits (u / 10) ++ [UInt8.ofNat (48 + u % 10)] := by
    rw [decDigits]
    exact dif_neg (by omega)
  rw [e, decDigits_two (by omega) (by omega), show u / 10 / 10 = u / 100 from by omega]
  rfl
theorem exp_itoa {x : Int} (h0 : -999 ≤ x) (h1 : x ≤ 999) : ∃ sg P T, expB x = sg :: P ∧ ((sg = 43 ∧ Lib.itoa x = T) ∨ (sg = 45 ∧ Lib.itoa x = 45 :: T)) ∧
    ((∃ c, P = [48, c] ∧ T = [c]) ∨ (T = P ∧ ∃ c r, P = c :: r ∧ 48 < c.toNat)) ∧ 2 ≤ P.length ∧ P.length ≤ 3 ∧ ∀ b ∈ P, 48 ≤ b.toNat ∧ b.toNat ≤ 57 := by
  obtain ⟨u, hu⟩ : ∃ u, x.natAbs = u := ⟨_, rfl⟩
  have hd : ∀ v : Nat, v < 10 → (UInt8.ofNat (48 + v)).toNat = 48 + v := fun v hv => by
    have : (UInt8.ofNat (48 + v)).toNat = (48 + v) % 256 := by simp
    rw [this]; omega
  have hi : (x < 0 ∧ Lib.itoa x = 45 :: decDigits u) ∨ (¬ x < 0 ∧ Lib.itoa x = decDigits u) := by
    unfold Lib.itoa
    by_cases hx : x < 0
    · rw [if_pos hx, hu]; exact .inl ⟨hx, rfl⟩
    · rw [if_neg hx, show x.toNat = u from by omega]; exact .inr ⟨hx, rfl⟩
  unfold expB
  rw [hu]
  refine ⟨if x < 0 then 45 else 43, if u < 10 then [48, UInt8.ofNat (48 + u)] else if u < 100 then [UInt8.ofNat (48 + u / 10), UInt8.ofNat (48 + u % 10)] else [UInt8.ofNat (48 + u / 100), UInt8.ofNat (48 + u / 10 % 10), UInt8.ofNat (48 + u % 10)], decDigits u, rfl, ?_, ?_⟩
  · rcases hi with ⟨h2, h3⟩ | ⟨h2, h3⟩
    · rw [if_pos h2]; exact .inr ⟨rfl, h3⟩
    · rw [if_neg h2]; exact .inl ⟨rfl, h3⟩
  · by_cases k1 : u < 10
    · rw [if_pos k1, decDigits_one k1]
      refine ⟨.inl ⟨_, rfl, rfl⟩, by simp, by simp, fun b hb => ?_⟩
      simp only [List.mem_cons, List.not_mem_nil, or_false] at hb
      rcases hb with rfl | rfl
      · decide
      · rw [hd u k1]; omega
    · rw [if_neg k1]
      by_cases k2 : u < 100
      · rw [if_pos k2, decDigits_two k1 k2]
        refine ⟨.inr ⟨rfl, _, _, rfl, by rw [hd _ (by omega)]; omega⟩, by simp, by simp, fun b hb => ?_⟩
        simp only [List.mem_cons, List.not_mem_nil, or_false] at hb
        rcases hb with rfl | rfl
        · rw [hd _ (by omega)]; omega
        · rw [hd _ (by omega)]; omega
      · rw [if_neg k2, dec_three k2 (by omega)]
        refine ⟨.inr ⟨rfl, _, _, rfl, by rw [hd _ (by omega)]; omega⟩, by simp, by simp, fun b hb => ?_⟩
        simp only [List.mem_cons, List.not_mem_nil, or_false] at hb
        rcases hb with rfl | rfl | rfl
        · rw [hd _ (by omega)]; omega
        · rw [hd _ (by omega)]; omega
        · rw [hd _ (by omega)]; omega

set_option maxRecDepth 100000 in
set_option maxHeartbeats 4000000 in
theorem rtext_f (b a c : Nat) (l : List UInt8) (w : World) (hb : b < 18446744073709551616) (ha : b % 9223372036854775808 = a) (hcw : canW b = c) (hc1 : c ≠ 9221120237041090561) (hc2 : c ≠ 9218868437227405312) (hc3 : c ≠ 18442240474082181120)
    (z : (FloatKind.f64.format.order a 0 == some .eq) = true ∨ ((FloatKind.f64.format.order a 0 == some .eq) = false ∧ (FloatKind.f64.format.order a 4562254508917369340 == some .gt || FloatKind.f64.format.order a 4562254508917369340 == some .eq) = true ∧ (FloatKind.f64.format.order a 4921056587992461136 == some .lt) = true))
    (hl : l.length ≤ 1000) (hl0 : l ≠ [])
    (hF : ∀ v w1, OB w.heap.size w 0 [] v [] w1 → Calls Tryz.prog 163 #[v, .float .f64 b, .int .u8 (102 : Nat), .int .i64 (-1)] w1 fun r w' => ∃ v' g ds, r = .returned v' ∧ OB w.heap.size w g ds v' l w') :
    Calls Tryz.prog 13 #[.float .f64 b] w fun e w' => e = .returned (.string ⟨(pointB l).toArray⟩) ∧ Below w.heap.size w w' := by
  have hA := fun W => abs_any b W hb
  rw [ha] at hA
  have hB := fun W => rbits_any b W hb
  rw [hcw] at hB
  have A1 := Lib.hid hA
  have B1 := Lib.hid hB
  have F1 := Lib.hid (format_any b 102 l w hl0 (by decide) hF)
  have d1 : ((c : Int) == 9221120237041090561) = false := by rw [beq_eq_false_iff_ne]; omega
  have d2 : ((c : Int) == 9218868437227405312) = false := by rw [beq_eq_false_iff_ne]; omega
  have d3 : ((c : Int) == 18442240474082181120) = false := by rw [beq_eq_false_iff_ne]; omega
  obtain ⟨s, hs⟩ : ∃ s : ByteArray, s = ⟨l.toArray⟩ := ⟨_, rfl⟩
  have hsl : s.data.toList = l := by rw [hs]
  have hss : s.size ≤ 1000 := by rw [Lib.size_eq, hsl]; exact hl
  rw [← hs] at F1
  have HP := Lib.hid (point_dot l)
  obtain ⟨R, hR⟩ : ∃ R, dotB l = R := ⟨_, rfl⟩
  rw [hR] at HP
  have HR := Lib.hid (show dotB (s.data.toList.drop 0) = R by rw [hsl]; exact hR)
  have HBY := Lib.hid (byF_at s)
  have HS := Lib.hid hs
  have HSL := Lib.hid hsl
  clear hA hB hF ha hcw hc1 hc2 hc3 hR hs hsl hl0
  rcases z with z0 | ⟨z0, z1, z2⟩
  all_goals
    go_enter Tryz.func13, Tryz.ntmps13
    go_wp2_with (fail)
    refine (B1.out _).mono ?_
    rintro e w' ⟨rfl, rfl⟩
    go_wp2_with (fail)
    refine (A1.out _).mono ?_
    rintro e w' ⟨rfl, rfl⟩
    go_wp2_with (fail)
    refine F1.out.mono ?_
    rintro e w1 ⟨rfl, hb1⟩
    have HB1 := Lib.hid hb1
    clear hb1
    go_wp2_with (fail)
    go_loopg [6] s.size (fun qq i wr => wr = w1 ∧ ∃ j : Nat, s.size - j = qq ∧ j ≤ s.size ∧ i = .int .i64 (j : Int) ∧ Hid (dotB (s.data.toList.drop j) = R))
    case atStart => exact ⟨rfl, 0, rfl, Nat.zero_le _, rfl, HR⟩
    case round =>
      obtain ⟨rfl, j, rfl, hj, rfl, hrun⟩ := hrel
      clear HR
      by_cases hlt : j < s.size
      · obtain ⟨c8, hd, hc8⟩ := drop_byte s j hlt
        have hby := HBY.out j hlt
        have h1 := hrun.out
        rw [hd] at h1
        unfold dotB at h1
        rw [hc8] at h1
        obtain ⟨x, hx⟩ : ∃ x, byF s j = x := ⟨_, rfl⟩
        rw [hx] at hby h1
        have e0 : decide ((j : Int) < (s.size : Int)) = true := decide_eq_true (by omega)
        clear hd hc8 hx hrun
        by_cases h : x = 46
        · have e1 : ((x : Int) == 46) = true := by rw [h]; rfl
          have H1 := Lib.hid (show R = true by rw [← h1, decide_eq_true h]; rfl)
          clear h1 h
          go_wp2_with (fail)
          go_ret
          refine ⟨?_, HB1.out⟩
          rw [HP.out, H1.out, if_pos rfl, HS.out]
          rfl
        · have e1 : ((x : Int) == 46) = false := by rw [beq_eq_false_iff_ne]; omega
          have H1 := Lib.hid (show dotB (s.data.toList.drop (j + 1)) = R by rw [← h1, decide_eq_false h]; rfl)
          clear h1 h
          go_wp2_with (fail)
          go_roundg (s.size - (j + 1))
          case measure => omega
          case rel => exact ⟨rfl, j + 1, rfl, by omega, by go_num, H1⟩
      · have hje : j = s.size := by omega
        subst hje
        have h1 := hrun.out
        rw [List.drop_of_length_le (by rw [← Lib.size_eq]; exact Nat.le_refl _)] at h1
        have H1 := Lib.hid (show R = false from h1.symm)
        clear hrun h1 HBY
        go_wp2_with (fail)
        go_ret
        refine ⟨?_, HB1.out⟩
        rw [HP.out, H1.out, if_neg (by simp), HS.out]
        rfl

end LM
end Go.Proofs.YtpnjddfnlaonoaaGreatDoor
