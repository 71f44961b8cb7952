/- Walks of package word: words of a tag and a number. -/
import Derived.Test.YthgcmfhjcldhbaaRows
import Derived.WalkKit
import Derived.ProofKit
import Derived.Laws.Bits64
import Derived.Laws.Bits64b
import Derived.Laws.Closers25b
import Derived.Lib.Hide
import Derived.Handy
import Derived.Deep.RegionWith
import Derived.WalkSpells
import Derived.WalkLawsBesides
import Derived.Deep.QuietTactic
import Derived.Deep.Draws
import Derived.BigQuiet
namespace Go.Proofs.Ythgcmfhjcldhbaa
open Go Go.RowKit
namespace LM
set_option linter.unusedVariables false

/-- the lowest 61 bits of a number -/
def lowB (n : Int) : Nat := (n % 2305843009213693952).toNat
/-- the word of a tag and a number -/
def mkW (t : Nat) (n : Int) : Nat := lowB n * 8 + t
theorem lowB_lt (n : Int) : lowB n < 2305843009213693952 := by unfold lowB; omega
theorem mkW_lt (t : Nat) (n : Int) (ht : t < 8) : mkW t n < 18446744073709551616 := by
  have := lowB_lt n
  unfold mkW
  omega
theorem or_tag (k t : Nat) (hk : k < 2305843009213693952) (ht : t < 8) : bits .or .u64 ((k : Int) * 8) (t : Int) = ((k * 8 + t : Nat) : Int) := by
  rw [show ((k : Int) * 8) = ((k * 8 : Nat) : Int) from by simp, bits_or_u64_nat _ _ (by omega) (by omega)]
  congr 1
  have := Nat.shiftLeft_add_eq_or_of_lt (b := t) (i := 3) (by omega) k
  rw [Nat.shiftLeft_eq] at this
  exact this.symm
theorem and_tag (x : Nat) (hx : x < 18446744073709551616) : bits .and .u64 (x : Int) 7 = ((x % 8 : Nat) : Int) := by
  have h := bits_and_u64_nat x 7 hx (by decide)
  rw [Nat.and_two_pow_sub_one_eq_mod x 3] at h
  exact h

set_option maxRecDepth 100000 in
theorem wtagged_any (t : Nat) (n : Int) (ht : t < 8) (w : World) :
    Calls Try.prog 24 #[.int .u64 (t : Int), .int .i64 n] w fun e w' => e = .returned (.int .u64 (mkW t n : Int)) ∧ w' = w := by
  obtain ⟨z, hz⟩ : ∃ z : Nat, IntKind.u64.wrap n = (z : Int) := ⟨(n % 18446744073709551616).toNat, by rw [IntKind.wrap_u64]; omega⟩
  have hk := lowB_lt n
  have hz2 : IntKind.u64.wrap ((z : Int) * 8) = (lowB n : Int) * 8 := by
    rw [IntKind.wrap_u64] at hz ⊢
    unfold lowB
    omega
  have ho := or_tag (lowB n) t hk ht
  have E : Hid ((lowB n : Int) * 8 + (t : Int) = (mkW t n : Int)) := Lib.hid (by unfold mkW; simp)
  obtain ⟨k, hkk⟩ : ∃ k, lowB n = k := ⟨_, rfl⟩
  rw [hkk] at ho hz2 E
  clear hk hkk
  go_enter Try.func24, Try.ntmps24
  go_wp2_with (fail)
  go_ret
  exact ⟨by rw [← E.out]; rfl, rfl⟩

set_option maxRecDepth 100000 in
theorem wplace_any (n : Int) (w : World) : Calls Try.prog 14 #[.int .i64 n] w fun e w' => e = .returned (.int .u64 (mkW 1 n : Int)) ∧ w' = w := by
  have T : Hid (∀ W, Calls Try.prog 24 #[.int .u64 1, .int .i64 n] W fun e w' => e = .returned (.int .u64 (mkW 1 n : Int)) ∧ w' = W) := Lib.hid fun W => wtagged_any 1 n (by decide) W
  go_enter Try.func14, Try.ntmps14
  go_wp2_with (fail)
  refine (T.out _).mono ?_; rintro e w' ⟨rfl, rfl⟩
  go_wp2_with (fail)
  go_ret
  exact ⟨rfl, rfl⟩

set_option maxRecDepth 100000 in
theorem wchar_any (n : Int) (w : World) : Calls Try.prog 16 #[.int .i64 n] w fun e w' => e = .returned (.int .u64 (mkW 2 n : Int)) ∧ w' = w := by
  have T : Hid (∀ W, Calls Try.prog 24 #[.int .u64 2, .int .i64 n] W fun e w' => e = .returned (.int .u64 (mkW 2 n : Int)) ∧ w' = W) := Lib.hid fun W => wtagged_any 2 n (by decide) W
  go_enter Try.func16, Try.ntmps16
  go_wp2_with (fail)
  refine (T.out _).mono ?_; rintro e w' ⟨rfl, rfl⟩
  go_wp2_with (fail)
  go_ret
  exact ⟨rfl, rfl⟩

set_option maxRecDepth 100000 in
theorem wsymbol_any (n : Int) (w : World) : Calls Try.prog 17 #[.int .i64 n] w fun e w' => e = .returned (.int .u64 (mkW 3 n : Int)) ∧ w' = w := by
  have T : Hid (∀ W, Calls Try.prog 24 #[.int .u64 3, .int .i64 n] W fun e w' => e = .returned (.int .u64 (mkW 3 n : Int)) ∧ w' = W) := Lib.hid fun W => wtagged_any 3 n (by decide) W
  go_enter Try.func17, Try.ntmps17
  go_wp2_with (fail)
  refine (T.out _).mono ?_; rintro e w' ⟨rfl, rfl⟩
  go_wp2_with (fail)
  go_ret
  exact ⟨rfl, rfl⟩

set_option maxRecDepth 100000 in
theorem wprim_any (n : Int) (w : World) : Calls Try.prog 18 #[.int .i64 n] w fun e w' => e = .returned (.int .u64 (mkW 4 n : Int)) ∧ w' = w := by
  have T : Hid (∀ W, Calls Try.prog 24 #[.int .u64 4, .int .i64 n] W fun e w' => e = .returned (.int .u64 (mkW 4 n : Int)) ∧ w' = W) := Lib.hid fun W => wtagged_any 4 n (by decide) W
  go_enter Try.func18, Try.ntmps18
  go_wp2_with (fail)
  refine (T.out _).mono ?_; rintro e w' ⟨rfl, rfl⟩
  go_wp2_with (fail)
  go_ret
  exact ⟨rfl, rfl⟩

set_option maxRecDepth 100000 in
theorem wsingle_any (n : Int) (w : World) : Calls Try.prog 11 #[.int .i64 n] w fun e w' => e = .returned (.int .u64 (mkW 5 n : Int)) ∧ w' = w := by
  have T : Hid (∀ W, Calls Try.prog 24 #[.int .u64 5, .int .i64 n] W fun e w' => e = .returned (.int .u64 (mkW 5 n : Int)) ∧ w' = W) := Lib.hid fun W => wtagged_any 5 n (by decide) W
  go_enter Try.func11, Try.ntmps11
  go_wp2_with (fail)
  refine (T.out _).mono ?_; rintro e w' ⟨rfl, rfl⟩
  go_wp2_with (fail)
  go_ret
  exact ⟨rfl, rfl⟩

set_option maxRecDepth 100000 in
theorem wleast (w : World) : Calls Try.prog 8 #[] w fun e w' => e = .returned (.int .i64 (-1152921504606846976)) ∧ w' = w := by
  go_enter Try.func8, Try.ntmps8
  go_wp2_with (fail)
  go_ret
  exact ⟨rfl, rfl⟩
set_option maxRecDepth 100000 in
theorem wmost (w : World) : Calls Try.prog 9 #[] w fun e w' => e = .returned (.int .i64 1152921504606846975) ∧ w' = w := by
  go_enter Try.func9, Try.ntmps9
  go_wp2_with (fail)
  go_ret
  exact ⟨rfl, rfl⟩
set_option maxRecDepth 100000 in
theorem wkind_any (x : Nat) (hx : x < 18446744073709551616) (w : World) : Calls Try.prog 19 #[.int .u64 (x : Int)] w fun e w' => e = .returned (.int .i64 ((x % 8 : Nat) : Int)) ∧ w' = w := by
  have h := and_tag x hx
  have h2 : IntKind.i64.wrap ((x % 8 : Nat) : Int) = ((x % 8 : Nat) : Int) := by rw [IntKind.wrap_i64]; omega
  go_enter Try.func19, Try.ntmps19
  go_wp2_with (fail)
  go_ret
  exact ⟨rfl, rfl⟩
set_option maxRecDepth 100000 in
theorem rwkind_any (x : Nat) (hx : x < 18446744073709551616) (w : World) : Calls Try.prog 20 #[.int .u64 (x : Int)] w fun e w' => e = .returned (.int .i64 ((x % 8 : Nat) : Int)) ∧ w' = w := by
  go_enter Try.func20, Try.ntmps20
  go_wp2_with (fail)
  go_ret
  exact ⟨rfl, rfl⟩
set_option maxRecDepth 100000 in
theorem rwmade_any (t : Nat) (n : Int) (ht : t < 8) (w : World) :
    Calls Try.prog 15 #[.int .i64 (t : Int), .int .i64 n] w fun e w' => e = .returned (.int .u64 (mkW t n : Int)) ∧ w' = w := by
  obtain ⟨z, hz⟩ : ∃ z : Nat, IntKind.u64.wrap n = (z : Int) := ⟨(n % 18446744073709551616).toNat, by rw [IntKind.wrap_u64]; omega⟩
  have hk := lowB_lt n
  have hr : (z : Int) % 2305843009213693952 = (lowB n : Int) := by
    rw [IntKind.wrap_u64] at hz
    unfold lowB
    omega
  have hm : IntKind.u64.wrap ((lowB n : Int) * 8) = (lowB n : Int) * 8 := by rw [IntKind.wrap_u64]; omega
  have hc : IntKind.u64.wrap (t : Int) = (t : Int) := by rw [IntKind.wrap_u64]; omega
  have ha : IntKind.u64.wrap ((lowB n : Int) * 8 + (t : Int)) = (mkW t n : Int) := by rw [IntKind.wrap_u64]; unfold mkW; omega
  obtain ⟨k, hkk⟩ : ∃ k, lowB n = k := ⟨_, rfl⟩
  rw [hkk] at hr hm ha
  clear hk hkk ht
  go_enter Try.func15, Try.ntmps15
  go_wp2_with (fail)
  go_ret
  exact ⟨rfl, rfl⟩
/-- the number of a word -/
def valW (x : Nat) : Int := if x % 8 = 0 ∧ 1152921504606846976 ≤ x / 8 then (x : Int) / 8 - 2305843009213693952 else (x : Int) / 8
set_option maxRecDepth 100000 in
theorem wvalue_any (x : Nat) (hx : x < 18446744073709551616) (w : World) : Calls Try.prog 21 #[.int .u64 (x : Int)] w fun e w' => e = .returned (.int .i64 (valW x)) ∧ w' = w := by
  have K : Hid (∀ W, Calls Try.prog 19 #[.int .u64 (x : Int)] W fun e w' => e = .returned (.int .i64 ((x % 8 : Nat) : Int)) ∧ w' = W) := Lib.hid fun W => wkind_any x hx W
  obtain ⟨v, hv⟩ : ∃ v, valW x = v := ⟨_, rfl⟩
  rw [hv]
  unfold valW at hv
  by_cases h0 : x % 8 = 0
  · rw [h0] at K
    obtain ⟨y, hy⟩ : ∃ y, IntKind.i64.wrap (x : Int) = y := ⟨_, rfl⟩
    have E : Hid (y / 8 = v) := Lib.hid (by rw [IntKind.wrap_i64] at hy; rw [← hv]; split <;> omega)
    clear hv h0 hx
    go_enter Try.func21, Try.ntmps21
    go_wp2_with (fail)
    refine (K.out _).mono ?_; rintro e w' ⟨rfl, rfl⟩
    go_wp2_with (fail)
    go_ret
    exact ⟨by rw [← E.out]; rfl, rfl⟩
  · have d : (((x % 8 : Nat) : Int) == 0) = false := by simpa using (by omega : ¬ ((x % 8 : Nat) : Int) = 0)
    have hy : IntKind.i64.wrap ((x : Int) / 8) = (x : Int) / 8 := by rw [IntKind.wrap_i64]; omega
    have E : Hid ((x : Int) / 8 = v) := Lib.hid (by rw [← hv, if_neg (fun h => h0 h.1)])
    clear hv h0 hx
    go_enter Try.func21, Try.ntmps21
    go_wp2_with (fail)
    refine (K.out _).mono ?_; rintro e w' ⟨rfl, rfl⟩
    go_wp2_with (fail)
    go_ret
    exact ⟨by rw [← E.out]; rfl, rfl⟩
set_option maxRecDepth 100000 in
theorem rwvalue_any (x : Nat) (hx : x < 18446744073709551616) (w : World) : Calls Try.prog 22 #[.int .u64 (x : Int)] w fun e w' => e = .returned (.int .i64 (valW x)) ∧ w' = w := by
  obtain ⟨v, hv⟩ : ∃ v, valW x = v := ⟨_, rfl⟩
  rw [hv]
  unfold valW at hv
  obtain ⟨m, hm⟩ : ∃ m : Nat, (x : Int) % 8 = (m : Int) := ⟨x % 8, by omega⟩
  obtain ⟨q, hq⟩ : ∃ q : Nat, (x : Int) / 8 = (q : Int) := ⟨x / 8, by omega⟩
  have sq : IntKind.u64.wrap (q : Int) = (q : Int) := by rw [IntKind.wrap_u64]; omega
  by_cases h0 : m = 0
  · subst h0
    have hm0 : (x : Int) % 8 = 0 := hm
    clear hm
    by_cases h1 : 1152921504606846976 ≤ q
    · have d1 : decide ((1152921504606846976 : Int) ≤ (q : Int)) = true := decide_eq_true (by omega)
      have s1 : IntKind.u64.wrap (2305843009213693952 - (q : Int)) = 2305843009213693952 - (q : Int) := by rw [IntKind.wrap_u64]; omega
      have s2 : IntKind.i64.wrap (2305843009213693952 - (q : Int)) = 2305843009213693952 - (q : Int) := by rw [IntKind.wrap_i64]; omega
      have s3 : IntKind.i64.wrap (-(2305843009213693952 - (q : Int))) = v := by rw [IntKind.wrap_i64, ← hv, if_pos (by omega)]; omega
      clear hv hx
      go_enter Try.func22, Try.ntmps22
      go_wp2_with (fail)
      go_ret
      exact ⟨rfl, rfl⟩
    · have d1 : decide ((1152921504606846976 : Int) ≤ (q : Int)) = false := decide_eq_false (by omega)
      have s2 : IntKind.i64.wrap (q : Int) = v := by rw [IntKind.wrap_i64, ← hv, if_neg (by omega)]; omega
      clear hv hx
      go_enter Try.func22, Try.ntmps22
      go_wp2_with (fail)
      go_ret
      exact ⟨rfl, rfl⟩
  · have d0 : ((m : Int) == 0) = false := by simpa using (by omega : ¬ (m : Int) = 0)
    have s2 : IntKind.i64.wrap (q : Int) = v := by rw [IntKind.wrap_i64, ← hv, if_neg (by omega)]; omega
    clear hv hx
    go_enter Try.func22, Try.ntmps22
    go_wp2_with (fail)
    go_ret
    exact ⟨rfl, rfl⟩
/-- whether a word can be -/
def rightW (x : Nat) : Bool := x % 8 == 0 || (decide (x % 8 ≤ 4) && decide (x / 8 ≤ 16777215)) || (x % 8 == 5 && decide (x / 8 ≤ 5))
end LM
end Go.Proofs.Ythgcmfhjcldhbaa
