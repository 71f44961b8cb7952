/- Walks of package word: the four laws. -/
import Derived.Test.YthgcmfhjcldhbaaWordC
namespace Go.Proofs.Ythgcmfhjcldhbaa
open Go Go.RowKit
namespace LM
set_option linter.unusedVariables false

set_option maxRecDepth 100000 in
theorem wnames_walk (w : World) : Calls Try.prog 3 #[] w fun e w' => e = .returned (.bool true) ∧ w' = w := by
  have S5 : Hid (∀ W, Calls Try.prog 11 #[.int .i64 5] W fun e w' => e = .returned (.int .u64 45) ∧ w' = W) := Lib.hid (wsingle_at 5 _ (by decide +kernel))
  have S6 : Hid (∀ W, Calls Try.prog 11 #[.int .i64 6] W fun e w' => e = .returned (.int .u64 53) ∧ w' = W) := Lib.hid (wsingle_at 6 _ (by decide +kernel))
  have R5 : Hid (∀ W, Calls Try.prog 10 #[.int .u64 45] W fun e w' => e = .returned (.bool true) ∧ w' = W) := Lib.hid (wright_at 45 _ _ (by decide +kernel) (by decide +kernel) (by decide +kernel))
  have R6 : Hid (∀ W, Calls Try.prog 10 #[.int .u64 53] W fun e w' => e = .returned (.bool false) ∧ w' = W) := Lib.hid (wright_at 53 _ _ (by decide +kernel) (by decide +kernel) (by decide +kernel))
  have R0 : Hid (∀ W, Calls Try.prog 10 #[.int .u64 6] W fun e w' => e = .returned (.bool false) ∧ w' = W) := Lib.hid (wright_at 6 _ _ (by decide +kernel) (by decide +kernel) (by decide +kernel))
  go_enter Try.func3, Try.ntmps3
  go_wp2_with (fail)
  refine (walive _).mono ?_; rintro e w' ⟨rfl, rfl⟩
  go_wp2_with (fail)
  refine (wleast _).mono ?_; rintro e w' ⟨rfl, rfl⟩
  go_wp2_with (fail)
  refine (wmost _).mono ?_; rintro e w' ⟨rfl, rfl⟩
  go_wp2_with (fail)
  refine (S5.out _).mono ?_; rintro e w' ⟨rfl, rfl⟩
  go_wp2_with (fail)
  refine (R5.out _).mono ?_; rintro e w' ⟨rfl, rfl⟩
  go_wp2_with (fail)
  refine (S6.out _).mono ?_; rintro e w' ⟨rfl, rfl⟩
  go_wp2_with (fail)
  refine (R6.out _).mono ?_; rintro e w' ⟨rfl, rfl⟩
  go_wp2_with (fail)
  refine (R0.out _).mono ?_; rintro e w' ⟨rfl, rfl⟩
  go_wp2_with (fail)
  go_ret
  exact ⟨rfl, by rfl⟩

set_option maxRecDepth 100000 in
theorem wtells_walk (x : Nat) (hx : x < 18446744073709551616) (w : World) : Calls Try.prog 5 #[.int .u64 (x : Int)] w fun e w' => e = .returned (.bool true) ∧ w' = w := by
  have K : Hid (∀ W, Calls Try.prog 19 #[.int .u64 (x : Int)] W fun e w' => e = .returned (.int .i64 ((x % 8 : Nat) : Int)) ∧ w' = W) := Lib.hid fun W => wkind_any x hx W
  have L : Hid (∀ W, Calls Try.prog 20 #[.int .u64 (x : Int)] W fun e w' => e = .returned (.int .i64 ((x % 8 : Nat) : Int)) ∧ w' = W) := Lib.hid fun W => rwkind_any x hx W
  have V : Hid (∀ W, Calls Try.prog 21 #[.int .u64 (x : Int)] W fun e w' => e = .returned (.int .i64 (valW x)) ∧ w' = W) := Lib.hid fun W => wvalue_any x hx W
  have U : Hid (∀ W, Calls Try.prog 22 #[.int .u64 (x : Int)] W fun e w' => e = .returned (.int .i64 (valW x)) ∧ w' = W) := Lib.hid fun W => rwvalue_any x hx W
  have R : Hid (∀ W, Calls Try.prog 10 #[.int .u64 (x : Int)] W fun e w' => e = .returned (.bool (rightW x)) ∧ w' = W) := Lib.hid fun W => wright_any x hx W
  have Q : Hid (∀ W, Calls Try.prog 23 #[.int .u64 (x : Int)] W fun e w' => e = .returned (.bool (rightW x)) ∧ w' = W) := Lib.hid fun W => rwright_any x hx W
  obtain ⟨k, hk⟩ : ∃ k : Int, ((x % 8 : Nat) : Int) = k := ⟨_, rfl⟩
  obtain ⟨v, hv⟩ : ∃ v, valW x = v := ⟨_, rfl⟩
  obtain ⟨r, hr⟩ : ∃ r, rightW x = r := ⟨_, rfl⟩
  rw [hk] at K L
  rw [hv] at V U
  rw [hr] at R Q
  clear hk hv hr hx
  cases r
  all_goals
    go_enter Try.func5, Try.ntmps5
    go_wp2_with (fail)
    refine (walive _).mono ?_; rintro e w' ⟨rfl, rfl⟩
    go_wp2_with (fail)
    refine (K.out _).mono ?_; rintro e w' ⟨rfl, rfl⟩
    go_wp2_with (fail)
    refine (L.out _).mono ?_; rintro e w' ⟨rfl, rfl⟩
    go_wp2_with (fail)
    refine (V.out _).mono ?_; rintro e w' ⟨rfl, rfl⟩
    go_wp2_with (fail)
    refine (U.out _).mono ?_; rintro e w' ⟨rfl, rfl⟩
    go_wp2_with (fail)
    refine (R.out _).mono ?_; rintro e w' ⟨rfl, rfl⟩
    go_wp2_with (fail)
    refine (Q.out _).mono ?_; rintro e w' ⟨rfl, rfl⟩
    go_wp2_with (fail)
    go_ret
    exact ⟨rfl, by rfl⟩

theorem smallV_is (n : Int) : ∃ (X : Int) (s : Bool), smallV n = .tuple #[.int .u64 X, .bool s] := by
  unfold smallV
  cases isS n
  · exact ⟨_, _, rfl⟩
  · exact ⟨_, _, rfl⟩
set_option maxRecDepth 100000 in
theorem wmakes_walk (n : Int) (w : World) : Calls Try.prog 4 #[.int .i64 n] w fun e w' => e = .returned (.bool true) ∧ w' = w := by
  have S : Hid (∀ W, Calls Try.prog 12 #[.int .i64 n] W fun e w' => e = .returned (smallV n) ∧ w' = W) := Lib.hid fun W => wsmall_any n W
  have T : Hid (∀ W, Calls Try.prog 13 #[.int .i64 n] W fun e w' => e = .returned (smallV n) ∧ w' = W) := Lib.hid fun W => rwsmall_any n W
  have P1 : Hid (∀ W, Calls Try.prog 14 #[.int .i64 n] W fun e w' => e = .returned (.int .u64 (mkW 1 n : Int)) ∧ w' = W) := Lib.hid fun W => wplace_any n W
  have M1 : Hid (∀ W, Calls Try.prog 15 #[.int .i64 1, .int .i64 n] W fun e w' => e = .returned (.int .u64 (mkW 1 n : Int)) ∧ w' = W) := Lib.hid fun W => rwmade_any 1 n (by decide) W
  have P2 : Hid (∀ W, Calls Try.prog 16 #[.int .i64 n] W fun e w' => e = .returned (.int .u64 (mkW 2 n : Int)) ∧ w' = W) := Lib.hid fun W => wchar_any n W
  have M2 : Hid (∀ W, Calls Try.prog 15 #[.int .i64 2, .int .i64 n] W fun e w' => e = .returned (.int .u64 (mkW 2 n : Int)) ∧ w' = W) := Lib.hid fun W => rwmade_any 2 n (by decide) W
  have P3 : Hid (∀ W, Calls Try.prog 17 #[.int .i64 n] W fun e w' => e = .returned (.int .u64 (mkW 3 n : Int)) ∧ w' = W) := Lib.hid fun W => wsymbol_any n W
  have M3 : Hid (∀ W, Calls Try.prog 15 #[.int .i64 3, .int .i64 n] W fun e w' => e = .returned (.int .u64 (mkW 3 n : Int)) ∧ w' = W) := Lib.hid fun W => rwmade_any 3 n (by decide) W
  have P4 : Hid (∀ W, Calls Try.prog 18 #[.int .i64 n] W fun e w' => e = .returned (.int .u64 (mkW 4 n : Int)) ∧ w' = W) := Lib.hid fun W => wprim_any n W
  have M4 : Hid (∀ W, Calls Try.prog 15 #[.int .i64 4, .int .i64 n] W fun e w' => e = .returned (.int .u64 (mkW 4 n : Int)) ∧ w' = W) := Lib.hid fun W => rwmade_any 4 n (by decide) W
  have P5 : Hid (∀ W, Calls Try.prog 11 #[.int .i64 n] W fun e w' => e = .returned (.int .u64 (mkW 5 n : Int)) ∧ w' = W) := Lib.hid fun W => wsingle_any n W
  have M5 : Hid (∀ W, Calls Try.prog 15 #[.int .i64 5, .int .i64 n] W fun e w' => e = .returned (.int .u64 (mkW 5 n : Int)) ∧ w' = W) := Lib.hid fun W => rwmade_any 5 n (by decide) W
  obtain ⟨X, s, hs⟩ := smallV_is n
  rw [hs] at S T
  clear hs
  generalize (mkW 1 n : Int) = m1 at P1 M1
  generalize (mkW 2 n : Int) = m2 at P2 M2
  generalize (mkW 3 n : Int) = m3 at P3 M3
  generalize (mkW 4 n : Int) = m4 at P4 M4
  generalize (mkW 5 n : Int) = m5 at P5 M5
  cases s
  all_goals
    go_enter Try.func4, Try.ntmps4
    go_wp2_with (fail)
    refine (walive _).mono ?_; rintro e w' ⟨rfl, rfl⟩
    go_wp2_with (fail)
    refine (S.out _).mono ?_; rintro e w' ⟨rfl, rfl⟩
    go_wp2_with (fail)
    refine (T.out _).mono ?_; rintro e w' ⟨rfl, rfl⟩
    go_wp2_with (fail)
    refine (P1.out _).mono ?_; rintro e w' ⟨rfl, rfl⟩
    go_wp2_with (fail)
    refine (M1.out _).mono ?_; rintro e w' ⟨rfl, rfl⟩
    go_wp2_with (fail)
    refine (P2.out _).mono ?_; rintro e w' ⟨rfl, rfl⟩
    go_wp2_with (fail)
    refine (M2.out _).mono ?_; rintro e w' ⟨rfl, rfl⟩
    go_wp2_with (fail)
    refine (P3.out _).mono ?_; rintro e w' ⟨rfl, rfl⟩
    go_wp2_with (fail)
    refine (M3.out _).mono ?_; rintro e w' ⟨rfl, rfl⟩
    go_wp2_with (fail)
    refine (P4.out _).mono ?_; rintro e w' ⟨rfl, rfl⟩
    go_wp2_with (fail)
    refine (M4.out _).mono ?_; rintro e w' ⟨rfl, rfl⟩
    go_wp2_with (fail)
    refine (P5.out _).mono ?_; rintro e w' ⟨rfl, rfl⟩
    go_wp2_with (fail)
    refine (M5.out _).mono ?_; rintro e w' ⟨rfl, rfl⟩
    go_wp2_with (fail)
    go_ret
    exact ⟨rfl, by rfl⟩
end LM
end Go.Proofs.Ythgcmfhjcldhbaa
