/- Walks of package word: small numbers, and which words can be. -/
import Derived.Test.YthgcmfhjcldhbaaWordA
namespace Go.Proofs.Ythgcmfhjcldhbaa
open Go Go.RowKit
namespace LM
set_option linter.unusedVariables false

/-- a number that has a word -/
def isS (n : Int) : Bool := decide (-1152921504606846976 ≤ n) && decide (n ≤ 1152921504606846975)
/-- its word, and whether it has one -/
def smallV (n : Int) : Value := if isS n then .tuple #[.int .u64 (mkW 0 n : Int), .bool true] else .tuple #[.int .u64 0, .bool false]

set_option maxRecDepth 100000 in
theorem wsmall_any (n : Int) (w : World) : Calls Try.prog 12 #[.int .i64 n] w fun e w' => e = .returned (smallV n) ∧ w' = w := by
  have T : Hid (∀ W, Calls Try.prog 24 #[.int .u64 0, .int .i64 n] W fun e w' => e = .returned (.int .u64 (mkW 0 n : Int)) ∧ w' = W) := Lib.hid fun W => wtagged_any 0 n (by decide) W
  obtain ⟨v, hv⟩ : ∃ v, smallV n = v := ⟨_, rfl⟩
  rw [hv]
  unfold smallV isS at hv
  by_cases h1 : n < -1152921504606846976
  · have d1 : decide (n < -1152921504606846976) = true := decide_eq_true h1
    have E : Hid (.tuple #[.int .u64 0, .bool false] = v) := Lib.hid (by rw [← hv, decide_eq_false (by omega : ¬ -1152921504606846976 ≤ n)]; rfl)
    clear hv h1
    go_enter Try.func12, Try.ntmps12
    go_wp2_with (fail)
    repeat (first | (refine (wleast _).mono ?_; rintro e w' ⟨rfl, rfl⟩; go_wp2_with (fail)) | (refine (wmost _).mono ?_; rintro e w' ⟨rfl, rfl⟩; go_wp2_with (fail)))
    go_returns
    exact ⟨by rw [← E.out]; rfl, by rfl⟩
  have d1 : decide (n < -1152921504606846976) = false := decide_eq_false h1
  by_cases h2 : 1152921504606846975 < n
  · have d2 : decide (1152921504606846975 < n) = true := decide_eq_true h2
    have E : Hid (.tuple #[.int .u64 0, .bool false] = v) := Lib.hid (by rw [← hv, decide_eq_false (by omega : ¬ n ≤ 1152921504606846975), Bool.and_false]; rfl)
    clear hv h1 h2
    go_enter Try.func12, Try.ntmps12
    go_wp2_with (fail)
    repeat (first | (refine (wleast _).mono ?_; rintro e w' ⟨rfl, rfl⟩; go_wp2_with (fail)) | (refine (wmost _).mono ?_; rintro e w' ⟨rfl, rfl⟩; go_wp2_with (fail)))
    go_returns
    exact ⟨by rw [← E.out]; rfl, by rfl⟩
  have d2 : decide (1152921504606846975 < n) = false := decide_eq_false h2
  have E : Hid (.tuple #[.int .u64 (mkW 0 n : Int), .bool true] = v) := Lib.hid (by rw [← hv, decide_eq_true (by omega : -1152921504606846976 ≤ n), decide_eq_true (by omega : n ≤ 1152921504606846975)]; rfl)
  clear hv h1 h2
  go_enter Try.func12, Try.ntmps12
  go_wp2_with (fail)
  repeat (first | (refine (wleast _).mono ?_; rintro e w' ⟨rfl, rfl⟩; go_wp2_with (fail)) | (refine (wmost _).mono ?_; rintro e w' ⟨rfl, rfl⟩; go_wp2_with (fail)))
  refine (T.out _).mono ?_; rintro e w' ⟨rfl, rfl⟩
  go_wp2_with (fail)
  go_returns
  exact ⟨by rw [← E.out]; rfl, by rfl⟩
set_option maxRecDepth 100000 in
theorem rwsmall_any (n : Int) (w : World) : Calls Try.prog 13 #[.int .i64 n] w fun e w' => e = .returned (smallV n) ∧ w' = w := by
  have T : Hid (∀ W, Calls Try.prog 15 #[.int .i64 0, .int .i64 n] W fun e w' => e = .returned (.int .u64 (mkW 0 n : Int)) ∧ w' = W) := Lib.hid fun W => rwmade_any 0 n (by decide) W
  obtain ⟨v, hv⟩ : ∃ v, smallV n = v := ⟨_, rfl⟩
  rw [hv]
  unfold smallV isS at hv
  by_cases h1 : n < -1152921504606846976
  · have d1 : decide (n < -1152921504606846976) = true := decide_eq_true h1
    have E : Hid (.tuple #[.int .u64 0, .bool false] = v) := Lib.hid (by rw [← hv, decide_eq_false (by omega : ¬ -1152921504606846976 ≤ n)]; rfl)
    clear hv h1
    go_enter Try.func13, Try.ntmps13
    go_wp2_with (fail)
    go_returns
    exact ⟨by rw [← E.out]; rfl, by rfl⟩
  have d1 : decide (n < -1152921504606846976) = false := decide_eq_false h1
  by_cases h2 : 1152921504606846975 < n
  · have d2 : decide (1152921504606846975 < n) = true := decide_eq_true h2
    have E : Hid (.tuple #[.int .u64 0, .bool false] = v) := Lib.hid (by rw [← hv, decide_eq_false (by omega : ¬ n ≤ 1152921504606846975), Bool.and_false]; rfl)
    clear hv h1 h2
    go_enter Try.func13, Try.ntmps13
    go_wp2_with (fail)
    go_returns
    exact ⟨by rw [← E.out]; rfl, by rfl⟩
  have d2 : decide (1152921504606846975 < n) = false := decide_eq_false h2
  have E : Hid (.tuple #[.int .u64 (mkW 0 n : Int), .bool true] = v) := Lib.hid (by rw [← hv, decide_eq_true (by omega : -1152921504606846976 ≤ n), decide_eq_true (by omega : n ≤ 1152921504606846975)]; rfl)
  clear hv h1 h2
  go_enter Try.func13, Try.ntmps13
  go_wp2_with (fail)
  refine (T.out _).mono ?_; rintro e w' ⟨rfl, rfl⟩
  go_wp2_with (fail)
  go_returns
  exact ⟨by rw [← E.out]; rfl, by rfl⟩

theorem valW_pos (x : Nat) (h : ¬ x % 8 = 0) : valW x = (x : Int) / 8 := if_neg fun g => h g.1
/-- whether a word can be -/
theorem rightW_0 (x : Nat) (h : x % 8 = 0) : rightW x = true := by simp [rightW, h]
theorem rightW_p (x : Nat) (h1 : 1 ≤ x % 8) (h4 : x % 8 ≤ 4) : rightW x = decide (valW x ≤ 16777215) := by
  rw [valW_pos x (by omega)]
  unfold rightW
  have e : decide ((x : Int) / 8 ≤ 16777215) = decide (x / 8 ≤ 16777215) := decide_eq_decide.2 (by omega)
  rw [e, decide_eq_true h4, show (x % 8 == 0) = false by simp; omega, show (x % 8 == 5) = false by simp; omega]
  simp
theorem rightW_5 (x : Nat) (h : x % 8 = 5) : rightW x = decide (valW x ≤ 5) := by
  rw [valW_pos x (by omega)]
  unfold rightW
  have e : decide ((x : Int) / 8 ≤ 5) = decide (x / 8 ≤ 5) := decide_eq_decide.2 (by omega)
  rw [e, h]
  simp
theorem rightW_no (x : Nat) (h : 6 ≤ x % 8) : rightW x = false := by
  unfold rightW
  rw [show (x % 8 == 0) = false by simp; omega, show (x % 8 == 5) = false by simp; omega, decide_eq_false (by omega : ¬ x % 8 ≤ 4)]
  rfl

set_option maxRecDepth 100000 in
theorem wright_any (x : Nat) (hx : x < 18446744073709551616) (w : World) : Calls Try.prog 10 #[.int .u64 (x : Int)] w fun e w' => e = .returned (.bool (rightW x)) ∧ w' = w := by
  have K : Hid (∀ W, Calls Try.prog 19 #[.int .u64 (x : Int)] W fun e w' => e = .returned (.int .i64 ((x % 8 : Nat) : Int)) ∧ w' = W) := Lib.hid fun W => wkind_any x hx W
  have V : Hid (∀ W, Calls Try.prog 21 #[.int .u64 (x : Int)] W fun e w' => e = .returned (.int .i64 (valW x)) ∧ w' = W) := Lib.hid fun W => wvalue_any x hx W
  have r0 := rightW_0 x
  have rp := rightW_p x
  have r5 := rightW_5 x
  have rn := rightW_no x
  obtain ⟨m, hm⟩ : ∃ m, x % 8 = m := ⟨_, rfl⟩
  have hm8 : m < 8 := by omega
  obtain ⟨v, hv⟩ : ∃ v, valW x = v := ⟨_, rfl⟩
  obtain ⟨r, hr⟩ : ∃ r, rightW x = r := ⟨_, rfl⟩
  rw [hr] at r0 rp r5 rn ⊢
  rw [hm] at K r0 rp r5 rn
  rw [hv] at V rp r5
  clear hm hv hr hx
  match m, hm8 with
  | 0, _ =>
    have R : Hid (r = true) := Lib.hid (r0 rfl)
    clear r0 rp r5 rn
    go_enter Try.func10, Try.ntmps10
    go_wp2_with (fail)
    refine (K.out _).mono ?_; rintro e w' ⟨rfl, rfl⟩
    go_wp2_with (fail)
    go_ret
    exact ⟨by rw [R.out]; rfl, rfl⟩
  | 1, _ | 2, _ | 3, _ | 4, _ =>
    have R : Hid (r = decide (v ≤ 16777215)) := Lib.hid (rp (by decide) (by decide))
    clear r0 rp r5 rn
    go_enter Try.func10, Try.ntmps10
    go_wp2_with (fail)
    refine (K.out _).mono ?_; rintro e w' ⟨rfl, rfl⟩
    go_wp2_with (fail)
    refine (V.out _).mono ?_; rintro e w' ⟨rfl, rfl⟩
    go_wp2_with (fail)
    go_ret
    exact ⟨by rw [R.out]; rfl, rfl⟩
  | 5, _ =>
    have R : Hid (r = decide (v ≤ 5)) := Lib.hid (r5 rfl)
    clear r0 rp r5 rn
    go_enter Try.func10, Try.ntmps10
    go_wp2_with (fail)
    refine (K.out _).mono ?_; rintro e w' ⟨rfl, rfl⟩
    go_wp2_with (fail)
    refine (V.out _).mono ?_; rintro e w' ⟨rfl, rfl⟩
    go_wp2_with (fail)
    go_ret
    exact ⟨by rw [R.out]; rfl, rfl⟩
  | 6, _ | 7, _ =>
    have R : Hid (r = false) := Lib.hid (rn (by decide))
    clear r0 rp r5 rn
    go_enter Try.func10, Try.ntmps10
    go_wp2_with (fail)
    refine (K.out _).mono ?_; rintro e w' ⟨rfl, rfl⟩
    go_wp2_with (fail)
    go_ret
    exact ⟨by rw [R.out]; rfl, rfl⟩
set_option maxRecDepth 100000 in
theorem rwright_any (x : Nat) (hx : x < 18446744073709551616) (w : World) : Calls Try.prog 23 #[.int .u64 (x : Int)] w fun e w' => e = .returned (.bool (rightW x)) ∧ w' = w := by
  have K : Hid (∀ W, Calls Try.prog 20 #[.int .u64 (x : Int)] W fun e w' => e = .returned (.int .i64 ((x % 8 : Nat) : Int)) ∧ w' = W) := Lib.hid fun W => rwkind_any x hx W
  have V : Hid (∀ W, Calls Try.prog 22 #[.int .u64 (x : Int)] W fun e w' => e = .returned (.int .i64 (valW x)) ∧ w' = W) := Lib.hid fun W => rwvalue_any x hx W
  have r0 := rightW_0 x
  have rp := rightW_p x
  have r5 := rightW_5 x
  have rn := rightW_no x
  obtain ⟨m, hm⟩ : ∃ m, x % 8 = m := ⟨_, rfl⟩
  have hm8 : m < 8 := by omega
  obtain ⟨v, hv⟩ : ∃ v, valW x = v := ⟨_, rfl⟩
  obtain ⟨r, hr⟩ : ∃ r, rightW x = r := ⟨_, rfl⟩
  rw [hr] at r0 rp r5 rn ⊢
  rw [hm] at K r0 rp r5 rn
  rw [hv] at V rp r5
  clear hm hv hr hx
  match m, hm8 with
  | 0, _ =>
    have R : Hid (r = true) := Lib.hid (r0 rfl)
    clear r0 rp r5 rn
    go_enter Try.func23, Try.ntmps23
    go_wp2_with (fail)
    refine (K.out _).mono ?_; rintro e w' ⟨rfl, rfl⟩
    go_wp2_with (fail)
    go_ret
    exact ⟨by rw [R.out]; rfl, rfl⟩
  | 1, _ | 2, _ | 3, _ | 4, _ =>
    have R : Hid (r = decide (v ≤ 16777215)) := Lib.hid (rp (by decide) (by decide))
    clear r0 rp r5 rn
    obtain ⟨b, hb⟩ : ∃ b, decide (v ≤ 16777215) = b := ⟨_, rfl⟩
    rw [hb] at R
    cases b
    all_goals
      go_enter Try.func23, Try.ntmps23
      go_wp2_with (fail)
      refine (K.out _).mono ?_; rintro e w' ⟨rfl, rfl⟩
      go_wp2_with (fail)
      refine (V.out _).mono ?_; rintro e w' ⟨rfl, rfl⟩
      all_goals
        go_wp2_with (fail)
        go_ret
        exact ⟨by rw [R.out]; rfl, by rfl⟩
  | 5, _ =>
    have R : Hid (r = decide (v ≤ 5)) := Lib.hid (r5 rfl)
    clear r0 rp r5 rn
    go_enter Try.func23, Try.ntmps23
    go_wp2_with (fail)
    refine (K.out _).mono ?_; rintro e w' ⟨rfl, rfl⟩
    go_wp2_with (fail)
    refine (V.out _).mono ?_; rintro e w' ⟨rfl, rfl⟩
    all_goals
      go_wp2_with (fail)
      go_ret
      exact ⟨by rw [R.out]; rfl, by rfl⟩
  | 6, _ | 7, _ =>
    have R : Hid (r = false) := Lib.hid (rn (by decide))
    clear r0 rp r5 rn
    go_enter Try.func23, Try.ntmps23
    go_wp2_with (fail)
    refine (K.out _).mono ?_; rintro e w' ⟨rfl, rfl⟩
    go_wp2_with (fail)
    go_ret
    exact ⟨by rw [R.out]; rfl, rfl⟩
end LM
end Go.Proofs.Ythgcmfhjcldhbaa
