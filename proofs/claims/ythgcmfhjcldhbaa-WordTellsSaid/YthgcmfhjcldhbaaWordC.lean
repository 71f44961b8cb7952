/- Walks of package word: the chapter's example, and the four laws. -/
import Derived.Test.YthgcmfhjcldhbaaWordB
namespace Go.Proofs.Ythgcmfhjcldhbaa
open Go Go.RowKit
namespace LM
set_option linter.unusedVariables false

theorem mk_m1 : ((mkW 0 (-1) : Nat) : Int) = 18446744073709551608 := by decide +kernel
theorem small_m1 : smallV (-1) = .tuple #[.int .u64 18446744073709551608, .bool true] := by
  rw [← mk_m1]
  exact if_pos (by decide +kernel)
theorem small_over : smallV 1152921504606846976 = .tuple #[.int .u64 0, .bool false] := if_neg (by decide +kernel)
theorem wkind_at (x : Nat) (z k : Int) (hx : x < 18446744073709551616) (hz : (x : Int) = z) (hk : ((x % 8 : Nat) : Int) = k) (W : World) : Calls Try.prog 19 #[.int .u64 z] W fun e w' => e = .returned (.int .i64 k) ∧ w' = W := by
  subst hz hk
  exact wkind_any x hx W
theorem wvalue_at (x : Nat) (z k : Int) (hx : x < 18446744073709551616) (hz : (x : Int) = z) (hk : valW x = k) (W : World) : Calls Try.prog 21 #[.int .u64 z] W fun e w' => e = .returned (.int .i64 k) ∧ w' = W := by
  subst hz hk
  exact wvalue_any x hx W
theorem wright_at (x : Nat) (z : Int) (k : Bool) (hx : x < 18446744073709551616) (hz : (x : Int) = z) (hk : rightW x = k) (W : World) : Calls Try.prog 10 #[.int .u64 z] W fun e w' => e = .returned (.bool k) ∧ w' = W := by
  subst hz hk
  exact wright_any x hx W
theorem wplace_at (n k : Int) (hk : ((mkW 1 n : Nat) : Int) = k) (W : World) : Calls Try.prog 14 #[.int .i64 n] W fun e w' => e = .returned (.int .u64 k) ∧ w' = W := by
  subst hk
  exact wplace_any n W
theorem wsingle_at (n k : Int) (hk : ((mkW 5 n : Nat) : Int) = k) (W : World) : Calls Try.prog 11 #[.int .i64 n] W fun e w' => e = .returned (.int .u64 k) ∧ w' = W := by
  subst hk
  exact wsingle_any n W
set_option maxRecDepth 100000 in
set_option maxHeartbeats 4000000 in
theorem walive (w : World) : Calls Try.prog 7 #[] w fun e w' => e = .returned (.bool true) ∧ w' = w := by
  have S1 : Hid (∀ W, Calls Try.prog 12 #[.int .i64 (-1)] W fun e w' => e = .returned (.tuple #[.int .u64 18446744073709551608, .bool true]) ∧ w' = W) := Lib.hid fun W => by
    have h := wsmall_any (-1) W
    rw [small_m1] at h
    exact h
  have S2 : Hid (∀ W, Calls Try.prog 12 #[.int .i64 1152921504606846976] W fun e w' => e = .returned (.tuple #[.int .u64 0, .bool false]) ∧ w' = W) := Lib.hid fun W => by
    have h := wsmall_any 1152921504606846976 W
    rw [small_over] at h
    exact h
  have K1 : Hid (∀ W, Calls Try.prog 19 #[.int .u64 18446744073709551608] W fun e w' => e = .returned (.int .i64 0) ∧ w' = W) := Lib.hid (wkind_at 18446744073709551608 _ _ (by decide +kernel) (by decide +kernel) (by decide +kernel))
  have V1 : Hid (∀ W, Calls Try.prog 21 #[.int .u64 18446744073709551608] W fun e w' => e = .returned (.int .i64 (-1)) ∧ w' = W) := Lib.hid (wvalue_at 18446744073709551608 _ _ (by decide +kernel) (by decide +kernel) (by decide +kernel))
  have P1 : Hid (∀ W, Calls Try.prog 14 #[.int .i64 7] W fun e w' => e = .returned (.int .u64 57) ∧ w' = W) := Lib.hid (wplace_at 7 _ (by decide +kernel))
  have K2 : Hid (∀ W, Calls Try.prog 19 #[.int .u64 57] W fun e w' => e = .returned (.int .i64 1) ∧ w' = W) := Lib.hid (wkind_at 57 _ _ (by decide +kernel) (by decide +kernel) (by decide +kernel))
  have V2 : Hid (∀ W, Calls Try.prog 21 #[.int .u64 57] W fun e w' => e = .returned (.int .i64 7) ∧ w' = W) := Lib.hid (wvalue_at 57 _ _ (by decide +kernel) (by decide +kernel) (by decide +kernel))
  go_enter Try.func7, Try.ntmps7
  go_wp2_with (fail)
  refine (S1.out _).mono ?_; rintro e w' ⟨rfl, rfl⟩
  go_wp2_with (fail)
  refine (wmost _).mono ?_; rintro e w' ⟨rfl, rfl⟩
  go_wp2_with (fail)
  refine (S2.out _).mono ?_; rintro e w' ⟨rfl, rfl⟩
  go_wp2_with (fail)
  refine (K1.out _).mono ?_; rintro e w' ⟨rfl, rfl⟩
  go_wp2_with (fail)
  refine (V1.out _).mono ?_; rintro e w' ⟨rfl, rfl⟩
  go_wp2_with (fail)
  refine (P1.out _).mono ?_; rintro e w' ⟨rfl, rfl⟩
  go_wp2_with (fail)
  refine (K2.out _).mono ?_; rintro e w' ⟨rfl, rfl⟩
  go_wp2_with (fail)
  refine (P1.out _).mono ?_; rintro e w' ⟨rfl, rfl⟩
  go_wp2_with (fail)
  refine (V2.out _).mono ?_; rintro e w' ⟨rfl, rfl⟩
  go_wp2_with (fail)
  go_ret
  exact ⟨rfl, rfl⟩
end LM
end Go.Proofs.Ythgcmfhjcldhbaa
