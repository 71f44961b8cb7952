/- The walk of the law WordBack: a number comes back of its word. -/
import Derived.Test.YthgcmfhjcldhbaaWordC
namespace Go.Proofs.Ythgcmfhjcldhbaa
open Go Go.RowKit
namespace LM
set_option linter.unusedVariables false

theorem smallV_has (n : Int) : ∃ (X : Int) (s : Bool), smallV n = .tuple #[.int .u64 X, .bool s] := by
  unfold smallV
  cases isS n
  · exact ⟨_, _, rfl⟩
  · exact ⟨_, _, rfl⟩
theorem valW_small (a : Int) (h1 : -1152921504606846976 ≤ a) (h2 : a ≤ 1152921504606846975) : valW (mkW 0 a) = a := by
  unfold valW mkW lowB
  split <;> omega
theorem rightW_small (a : Int) : rightW (mkW 0 a) = true := rightW_0 _ (by unfold mkW; omega)
theorem mkW_inj (t : Nat) (a b : Int) (ha : -1152921504606846976 ≤ a ∧ a ≤ 1152921504606846975) (hb : -1152921504606846976 ≤ b ∧ b ≤ 1152921504606846975) (h : mkW t a = mkW t b) : a = b := by
  unfold mkW lowB at h
  omega
theorem mkW_unlike (t u : Nat) (ht : t < 8) (hu : u < 8) (h : t ≠ u) (a b : Int) : mkW t a ≠ mkW u b := by
  unfold mkW
  omega
theorem valW_place (a : Int) (h1 : 0 ≤ a) (h2 : a ≤ 16777215) : valW (mkW 1 a) = a := by
  rw [valW_pos _ (by unfold mkW; omega)]
  unfold mkW lowB
  omega
theorem rightW_char (a : Int) (h1 : 0 ≤ a) (h2 : a ≤ 16777215) : rightW (mkW 2 a) = true := by
  have e : mkW 2 a % 8 = 2 := by unfold mkW; omega
  rw [rightW_p _ (by omega) (by omega), valW_pos _ (by omega)]
  exact decide_eq_true (by unfold mkW lowB; omega)
theorem beq_int_no {a b : Int} (h : a ≠ b) : (a == b) = false := by simpa using h
theorem bne_int {a b : Int} (h : ¬ a = b) : (a != b) = true := by simpa using h

/-- a number below the least or above the greatest -/
theorem wback_out (a b : Int) (h : a < -1152921504606846976 ∨ 1152921504606846975 < a) (w : World) : Calls Try.prog 6 #[.int .i64 a, .int .i64 b] w fun e w' => e = .returned (.bool true) ∧ w' = w := by
  obtain ⟨Y, s, hs⟩ := smallV_has b
  have B : Hid (∀ W, Calls Try.prog 12 #[.int .i64 b] W fun e w' => e = .returned (.tuple #[.int .u64 Y, .bool s]) ∧ w' = W) := Lib.hid fun W => hs ▸ wsmall_any b W
  have hA : smallV a = .tuple #[.int .u64 0, .bool false] := if_neg (by unfold isS; rcases h with h | h <;> simp <;> omega)
  have A : Hid (∀ W, Calls Try.prog 12 #[.int .i64 a] W fun e w' => e = .returned (.tuple #[.int .u64 0, .bool false]) ∧ w' = W) := Lib.hid fun W => hA ▸ wsmall_any a W
  clear hA hs
  rcases h with h | h
  · have d1 : decide (-1152921504606846976 ≤ a) = false := decide_eq_false (by omega)
    have d2 : decide (a < 0) = true := decide_eq_true (by omega)
    clear h
    go_enter Try.func6, Try.ntmps6
    go_wp2_with (fail)
    refine (walive _).mono ?_; rintro e w' ⟨rfl, rfl⟩
    go_wp2_with (fail)
    refine (A.out _).mono ?_; rintro e w' ⟨rfl, rfl⟩
    go_wp2_with (fail)
    refine (B.out _).mono ?_; rintro e w' ⟨rfl, rfl⟩
    go_wp2_with (fail)
    refine (wleast _).mono ?_; rintro e w' ⟨rfl, rfl⟩
    go_wp2_with (fail)
    go_ret
    exact ⟨rfl, by rfl⟩
  · have d1 : decide (-1152921504606846976 ≤ a) = true := decide_eq_true (by omega)
    have d2 : decide (a ≤ 1152921504606846975) = false := decide_eq_false (by omega)
    have d3 : decide (a < 0) = false := decide_eq_false (by omega)
    have d4 : decide (16777215 < a) = true := decide_eq_true (by omega)
    clear h
    go_enter Try.func6, Try.ntmps6
    go_wp2_with (fail)
    refine (walive _).mono ?_; rintro e w' ⟨rfl, rfl⟩
    go_wp2_with (fail)
    refine (A.out _).mono ?_; rintro e w' ⟨rfl, rfl⟩
    go_wp2_with (fail)
    refine (B.out _).mono ?_; rintro e w' ⟨rfl, rfl⟩
    go_wp2_with (fail)
    refine (wleast _).mono ?_; rintro e w' ⟨rfl, rfl⟩
    go_wp2_with (fail)
    refine (wmost _).mono ?_; rintro e w' ⟨rfl, rfl⟩
    go_wp2_with (fail)
    go_ret
    exact ⟨rfl, by rfl⟩

/-- which of two numbers is the first that isn't from 0 to 16777215 -/
def Far (a b : Int) : Prop := decide (a < 0) = true ∨ (decide (a < 0) = false ∧ decide (16777215 < a) = true) ∨ (decide (a < 0) = false ∧ decide (16777215 < a) = false ∧ decide (b < 0) = true) ∨ (decide (a < 0) = false ∧ decide (16777215 < a) = false ∧ decide (b < 0) = false ∧ decide (16777215 < b) = true)
theorem far_of (a b : Int) (h : ¬ (0 ≤ a ∧ a ≤ 16777215 ∧ 0 ≤ b ∧ b ≤ 16777215)) : Far a b := by
  unfold Far
  by_cases h1 : a < 0
  · exact .inl (decide_eq_true h1)
  · by_cases h2 : 16777215 < a
    · exact .inr (.inl ⟨decide_eq_false h1, decide_eq_true h2⟩)
    · by_cases h3 : b < 0
      · exact .inr (.inr (.inl ⟨decide_eq_false h1, decide_eq_false h2, decide_eq_true h3⟩))
      · exact .inr (.inr (.inr ⟨decide_eq_false h1, decide_eq_false h2, decide_eq_false h3, decide_eq_true (by omega)⟩))
/-- what is told of a number that has a word -/
def In (a X : Int) : Prop := (∀ W, Calls Try.prog 12 #[.int .i64 a] W fun e w' => e = .returned (.tuple #[.int .u64 X, .bool true]) ∧ w' = W)
  ∧ (∀ W, Calls Try.prog 21 #[.int .u64 X] W fun e w' => e = .returned (.int .i64 a) ∧ w' = W)
  ∧ (∀ W, Calls Try.prog 10 #[.int .u64 X] W fun e w' => e = .returned (.bool true) ∧ w' = W)
  ∧ (∀ W, Calls Try.prog 19 #[.int .u64 X] W fun e w' => e = .returned (.int .i64 0) ∧ w' = W)
  ∧ decide (-1152921504606846976 ≤ a) = true ∧ decide (a ≤ 1152921504606846975) = true
theorem in_of (a : Int) (h1 : -1152921504606846976 ≤ a) (h2 : a ≤ 1152921504606846975) : In a (mkW 0 a : Int) := by
  have hx := mkW_lt 0 a (by decide)
  have hs : smallV a = .tuple #[.int .u64 (mkW 0 a : Int), .bool true] := if_pos (by unfold isS; simp; omega)
  refine ⟨fun W => hs ▸ wsmall_any a W, fun W => ?_, fun W => ?_, fun W => ?_, decide_eq_true h1, decide_eq_true h2⟩
  · have h := wvalue_any (mkW 0 a) hx W
    rw [valW_small a h1 h2] at h
    exact h
  · have h := wright_any (mkW 0 a) hx W
    rw [rightW_small a] at h
    exact h
  · have h := wkind_any (mkW 0 a) hx W
    rw [show mkW 0 a % 8 = 0 by unfold mkW; omega] at h
    exact h
set_option maxRecDepth 100000 in
set_option maxHeartbeats 2000000 in
theorem wback_far (a b X Y : Int) (s : Bool) (hi : In a X) (hf : Far a b) (hB : ∀ W, Calls Try.prog 12 #[.int .i64 b] W fun e w' => e = .returned (.tuple #[.int .u64 Y, .bool s]) ∧ w' = W)
    (he : s = true → (a = b ∧ X = Y) ∨ ((a == b) = false ∧ (X == Y) = false)) (w : World) : Calls Try.prog 6 #[.int .i64 a, .int .i64 b] w fun e w' => e = .returned (.bool true) ∧ w' = w := by
  obtain ⟨h1, h2, h3, h4, d1, d2⟩ := hi
  have A := Lib.hid h1
  have V := Lib.hid h2
  have R := Lib.hid h3
  have K := Lib.hid h4
  have B := Lib.hid hB
  clear h1 h2 h3 h4 hB
  unfold Far at hf
  cases s
  · clear he
    rcases hf with f1 | ⟨f1, f2⟩ | ⟨f1, f2, f3⟩ | ⟨f1, f2, f3, f4⟩
    all_goals
      go_enter Try.func6, Try.ntmps6
      go_wp2_with (fail)
      refine (walive _).mono ?_; rintro e w' ⟨rfl, rfl⟩
      go_wp2_with (fail)
      refine (A.out _).mono ?_; rintro e w' ⟨rfl, rfl⟩
      go_wp2_with (fail)
      refine (B.out _).mono ?_; rintro e w' ⟨rfl, rfl⟩
      go_wp2_with (fail)
      refine (wleast _).mono ?_; rintro e w' ⟨rfl, rfl⟩
      go_wp2_with (fail)
      refine (wmost _).mono ?_; rintro e w' ⟨rfl, rfl⟩
      go_wp2_with (fail)
      refine (V.out _).mono ?_; rintro e w' ⟨rfl, rfl⟩
      go_wp2_with (fail)
      refine (R.out _).mono ?_; rintro e w' ⟨rfl, rfl⟩
      go_wp2_with (fail)
      refine (K.out _).mono ?_; rintro e w' ⟨rfl, rfl⟩
      go_wp2_with (fail)
      go_ret
      exact ⟨rfl, by rfl⟩
  · rcases he rfl with ⟨rfl, rfl⟩ | ⟨e1, e2⟩
    · clear he
      rcases hf with f1 | ⟨f1, f2⟩ | ⟨f1, f2, f3⟩ | ⟨f1, f2, f3, f4⟩
      · skip
        go_enter Try.func6, Try.ntmps6
        go_wp2_with (fail)
        refine (walive _).mono ?_; rintro e w' ⟨rfl, rfl⟩
        go_wp2_with (fail)
        refine (A.out _).mono ?_; rintro e w' ⟨rfl, rfl⟩
        go_wp2_with (fail)
        refine (A.out _).mono ?_; rintro e w' ⟨rfl, rfl⟩
        go_wp2_with (fail)
        refine (wleast _).mono ?_; rintro e w' ⟨rfl, rfl⟩
        go_wp2_with (fail)
        refine (wmost _).mono ?_; rintro e w' ⟨rfl, rfl⟩
        go_wp2_with (fail)
        refine (V.out _).mono ?_; rintro e w' ⟨rfl, rfl⟩
        go_wp2_with (fail)
        refine (R.out _).mono ?_; rintro e w' ⟨rfl, rfl⟩
        go_wp2_with (fail)
        refine (K.out _).mono ?_; rintro e w' ⟨rfl, rfl⟩
        go_wp2_with (fail)
        go_ret
        exact ⟨rfl, by rfl⟩
      · skip
        go_enter Try.func6, Try.ntmps6
        go_wp2_with (fail)
        refine (walive _).mono ?_; rintro e w' ⟨rfl, rfl⟩
        go_wp2_with (fail)
        refine (A.out _).mono ?_; rintro e w' ⟨rfl, rfl⟩
        go_wp2_with (fail)
        refine (A.out _).mono ?_; rintro e w' ⟨rfl, rfl⟩
        go_wp2_with (fail)
        refine (wleast _).mono ?_; rintro e w' ⟨rfl, rfl⟩
        go_wp2_with (fail)
        refine (wmost _).mono ?_; rintro e w' ⟨rfl, rfl⟩
        go_wp2_with (fail)
        refine (V.out _).mono ?_; rintro e w' ⟨rfl, rfl⟩
        go_wp2_with (fail)
        refine (R.out _).mono ?_; rintro e w' ⟨rfl, rfl⟩
        go_wp2_with (fail)
        refine (K.out _).mono ?_; rintro e w' ⟨rfl, rfl⟩
        go_wp2_with (fail)
        go_ret
        exact ⟨rfl, by rfl⟩
      · rw [f1] at f3
        cases f3
      · rw [f2] at f4
        cases f4
    · clear he
      rcases hf with f1 | ⟨f1, f2⟩ | ⟨f1, f2, f3⟩ | ⟨f1, f2, f3, f4⟩
      all_goals
        go_enter Try.func6, Try.ntmps6
        go_wp2_with (fail)
        refine (walive _).mono ?_; rintro e w' ⟨rfl, rfl⟩
        go_wp2_with (fail)
        refine (A.out _).mono ?_; rintro e w' ⟨rfl, rfl⟩
        go_wp2_with (fail)
        refine (B.out _).mono ?_; rintro e w' ⟨rfl, rfl⟩
        go_wp2_with (fail)
        refine (wleast _).mono ?_; rintro e w' ⟨rfl, rfl⟩
        go_wp2_with (fail)
        refine (wmost _).mono ?_; rintro e w' ⟨rfl, rfl⟩
        go_wp2_with (fail)
        refine (V.out _).mono ?_; rintro e w' ⟨rfl, rfl⟩
        go_wp2_with (fail)
        refine (R.out _).mono ?_; rintro e w' ⟨rfl, rfl⟩
        go_wp2_with (fail)
        refine (K.out _).mono ?_; rintro e w' ⟨rfl, rfl⟩
        go_wp2_with (fail)
        go_ret
        exact ⟨rfl, by rfl⟩

set_option maxRecDepth 100000 in
theorem wback_near (a b : Int) (h : 0 ≤ a ∧ a ≤ 16777215 ∧ 0 ≤ b ∧ b ≤ 16777215) (w : World) : Calls Try.prog 6 #[.int .i64 a, .int .i64 b] w fun e w' => e = .returned (.bool true) ∧ w' = w := by
  obtain ⟨g1, g2, g3, g4⟩ := h
  obtain ⟨h1, h2, h3, h4, d1, d2⟩ := in_of a (by omega) (by omega)
  have A := Lib.hid h1
  have V := Lib.hid h2
  have R := Lib.hid h3
  have K := Lib.hid h4
  have B := Lib.hid (in_of b (by omega) (by omega)).1
  clear h1 h2 h3 h4
  have f1 : decide (a < 0) = false := decide_eq_false (by omega)
  have f2 : decide (16777215 < a) = false := decide_eq_false (by omega)
  have f3 : decide (b < 0) = false := decide_eq_false (by omega)
  have f4 : decide (16777215 < b) = false := decide_eq_false (by omega)
  have PL : Hid (∀ W, Calls Try.prog 14 #[.int .i64 a] W fun e w' => e = .returned (.int .u64 (mkW 1 a : Int)) ∧ w' = W) := Lib.hid fun W => wplace_any a W
  have CH : Hid (∀ W, Calls Try.prog 16 #[.int .i64 a] W fun e w' => e = .returned (.int .u64 (mkW 2 a : Int)) ∧ w' = W) := Lib.hid fun W => wchar_any a W
  have SY : Hid (∀ W, Calls Try.prog 17 #[.int .i64 a] W fun e w' => e = .returned (.int .u64 (mkW 3 a : Int)) ∧ w' = W) := Lib.hid fun W => wsymbol_any a W
  have SB : Hid (∀ W, Calls Try.prog 17 #[.int .i64 b] W fun e w' => e = .returned (.int .u64 (mkW 3 b : Int)) ∧ w' = W) := Lib.hid fun W => wsymbol_any b W
  have PR : Hid (∀ W, Calls Try.prog 18 #[.int .i64 a] W fun e w' => e = .returned (.int .u64 (mkW 4 a : Int)) ∧ w' = W) := Lib.hid fun W => wprim_any a W
  have PV : Hid (∀ W, Calls Try.prog 21 #[.int .u64 (mkW 1 a : Int)] W fun e w' => e = .returned (.int .i64 a) ∧ w' = W) := Lib.hid fun W => by
    have h := wvalue_any (mkW 1 a) (mkW_lt 1 a (by decide)) W
    rw [valW_place a g1 g2] at h
    exact h
  have CR : Hid (∀ W, Calls Try.prog 10 #[.int .u64 (mkW 2 a : Int)] W fun e w' => e = .returned (.bool true) ∧ w' = W) := Lib.hid fun W => rightW_char a g1 g2 ▸ wright_any (mkW 2 a) (mkW_lt 2 a (by decide)) W
  have n1 : ¬ (mkW 3 a : Int) = (mkW 1 a : Int) := fun h => mkW_unlike 3 1 (by decide) (by decide) (by decide) a a (by omega)
  have n2 : ¬ (mkW 4 a : Int) = (mkW 2 a : Int) := fun h => mkW_unlike 4 2 (by decide) (by decide) (by decide) a a (by omega)
  by_cases hab : a = b
  · subst hab
    clear g1 g2 g3 g4
    generalize (mkW 0 a : Int) = x0 at A V R K B
    generalize (mkW 1 a : Int) = x1 at PL PV n1
    generalize (mkW 2 a : Int) = x2 at CH CR n2
    generalize (mkW 3 a : Int) = x3 at SY SB n1
    generalize (mkW 4 a : Int) = x4 at PR n2
    have hv1 : (x3 != x1 && x4 != x2) = true := by rw [bne_int n1, bne_int n2]; rfl
    go_enter Try.func6, Try.ntmps6
    go_wp2_with (fail)
    refine (walive _).mono ?_; rintro e w' ⟨rfl, rfl⟩
    go_wp2_with (fail)
    refine (A.out _).mono ?_; rintro e w' ⟨rfl, rfl⟩
    go_wp2_with (fail)
    refine (B.out _).mono ?_; rintro e w' ⟨rfl, rfl⟩
    go_wp2_with (fail)
    refine (wleast _).mono ?_; rintro e w' ⟨rfl, rfl⟩
    go_wp2_with (fail)
    refine (wmost _).mono ?_; rintro e w' ⟨rfl, rfl⟩
    go_wp2_with (fail)
    refine (V.out _).mono ?_; rintro e w' ⟨rfl, rfl⟩
    go_wp2_with (fail)
    refine (R.out _).mono ?_; rintro e w' ⟨rfl, rfl⟩
    go_wp2_with (fail)
    refine (K.out _).mono ?_; rintro e w' ⟨rfl, rfl⟩
    go_wp2_with (fail)
    refine (PL.out _).mono ?_; rintro e w' ⟨rfl, rfl⟩
    go_wp2_with (fail)
    refine (PV.out _).mono ?_; rintro e w' ⟨rfl, rfl⟩
    go_wp2_with (fail)
    refine (CH.out _).mono ?_; rintro e w' ⟨rfl, rfl⟩
    go_wp2_with (fail)
    refine (CR.out _).mono ?_; rintro e w' ⟨rfl, rfl⟩
    go_wp2_with (fail)
    refine (SY.out _).mono ?_; rintro e w' ⟨rfl, rfl⟩
    go_wp2_with (fail)
    refine (SB.out _).mono ?_; rintro e w' ⟨rfl, rfl⟩
    go_wp2_with (fail)
    refine (SY.out _).mono ?_; rintro e w' ⟨rfl, rfl⟩
    go_wp2_with (fail)
    refine (PL.out _).mono ?_; rintro e w' ⟨rfl, rfl⟩
    go_wp2_with (fail)
    refine (PR.out _).mono ?_; rintro e w' ⟨rfl, rfl⟩
    go_wp2_with (fail)
    refine (CH.out _).mono ?_; rintro e w' ⟨rfl, rfl⟩
    go_wp2_with (fail)
    go_ret
    exact ⟨rfl, by rfl⟩
  · have m0 : ((mkW 0 a : Int) == (mkW 0 b : Int)) = false := beq_int_no fun h => hab (mkW_inj 0 a b (by omega) (by omega) (by omega))
    have m3 : ((mkW 3 a : Int) == (mkW 3 b : Int)) = false := beq_int_no fun h => hab (mkW_inj 3 a b (by omega) (by omega) (by omega))
    have nab : (a == b) = false := beq_int_no hab
    clear g1 g2 g3 g4 hab
    generalize (mkW 0 a : Int) = x0 at A V R K m0
    generalize (mkW 0 b : Int) = y0 at B m0
    generalize (mkW 1 a : Int) = x1 at PL PV n1
    generalize (mkW 2 a : Int) = x2 at CH CR n2
    generalize (mkW 3 a : Int) = x3 at SY n1 m3
    generalize (mkW 3 b : Int) = y3 at SB m3
    generalize (mkW 4 a : Int) = x4 at PR n2
    have hv1 : (x3 != x1 && x4 != x2) = true := by rw [bne_int n1, bne_int n2]; rfl
    go_enter Try.func6, Try.ntmps6
    go_wp2_with (fail)
    refine (walive _).mono ?_; rintro e w' ⟨rfl, rfl⟩
    go_wp2_with (fail)
    refine (A.out _).mono ?_; rintro e w' ⟨rfl, rfl⟩
    go_wp2_with (fail)
    refine (B.out _).mono ?_; rintro e w' ⟨rfl, rfl⟩
    go_wp2_with (fail)
    refine (wleast _).mono ?_; rintro e w' ⟨rfl, rfl⟩
    go_wp2_with (fail)
    refine (wmost _).mono ?_; rintro e w' ⟨rfl, rfl⟩
    go_wp2_with (fail)
    refine (V.out _).mono ?_; rintro e w' ⟨rfl, rfl⟩
    go_wp2_with (fail)
    refine (R.out _).mono ?_; rintro e w' ⟨rfl, rfl⟩
    go_wp2_with (fail)
    refine (K.out _).mono ?_; rintro e w' ⟨rfl, rfl⟩
    go_wp2_with (fail)
    refine (PL.out _).mono ?_; rintro e w' ⟨rfl, rfl⟩
    go_wp2_with (fail)
    refine (PV.out _).mono ?_; rintro e w' ⟨rfl, rfl⟩
    go_wp2_with (fail)
    refine (CH.out _).mono ?_; rintro e w' ⟨rfl, rfl⟩
    go_wp2_with (fail)
    refine (CR.out _).mono ?_; rintro e w' ⟨rfl, rfl⟩
    go_wp2_with (fail)
    refine (SY.out _).mono ?_; rintro e w' ⟨rfl, rfl⟩
    go_wp2_with (fail)
    refine (SB.out _).mono ?_; rintro e w' ⟨rfl, rfl⟩
    go_wp2_with (fail)
    refine (SY.out _).mono ?_; rintro e w' ⟨rfl, rfl⟩
    go_wp2_with (fail)
    refine (PL.out _).mono ?_; rintro e w' ⟨rfl, rfl⟩
    go_wp2_with (fail)
    refine (PR.out _).mono ?_; rintro e w' ⟨rfl, rfl⟩
    go_wp2_with (fail)
    refine (CH.out _).mono ?_; rintro e w' ⟨rfl, rfl⟩
    go_wp2_with (fail)
    go_ret
    exact ⟨rfl, by rfl⟩

theorem wback_walk (a b : Int) (w : World) : Calls Try.prog 6 #[.int .i64 a, .int .i64 b] w fun e w' => e = .returned (.bool true) ∧ w' = w := by
  by_cases h1 : a < -1152921504606846976
  · exact wback_out a b (.inl h1) w
  by_cases h2 : 1152921504606846975 < a
  · exact wback_out a b (.inr h2) w
  by_cases h3 : 0 ≤ a ∧ a ≤ 16777215 ∧ 0 ≤ b ∧ b ≤ 16777215
  · exact wback_near a b h3 w
  have hf := far_of a b h3
  by_cases h4 : -1152921504606846976 ≤ b ∧ b ≤ 1152921504606846975
  · refine wback_far a b _ _ true (in_of a (by omega) (by omega)) hf (in_of b h4.1 h4.2).1 (fun _ => ?_) w
    by_cases hab : a = b
    · exact .inl ⟨hab, by rw [hab]⟩
    · exact .inr ⟨beq_int_no hab, beq_int_no fun h => hab (mkW_inj 0 a b (by omega) h4 (by omega))⟩
  · have hB : smallV b = .tuple #[.int .u64 0, .bool false] := if_neg (by unfold isS; simp; omega)
    exact wback_far a b _ 0 false (in_of a (by omega) (by omega)) hf (fun W => hB ▸ wsmall_any b W) (fun h => by cases h) w
end LM
end Go.Proofs.Ythgcmfhjcldhbaa
