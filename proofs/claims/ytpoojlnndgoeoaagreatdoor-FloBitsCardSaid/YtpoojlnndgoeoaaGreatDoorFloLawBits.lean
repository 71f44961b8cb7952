/- The walk of the statement FloBits. -/
import Derived.Test.YtpoojlnndgoeoaaGreatDoorFloJ
import Derived.Test.YtpoojlnndgoeoaaGreatDoorFloA
import Derived.Test.YtpoojlnndgoeoaaGreatDoorFloU
namespace Go.Proofs.YtpoojlnndgoeoaaGreatDoor
open Go Go.RowKit
namespace LM
set_option linter.unusedVariables false

/-- a word in one form -/
def canW (b : Nat) : Nat := if nanW b then 9221120237041090561 else b

set_option maxRecDepth 100000 in
set_option maxHeartbeats 1000000 in
theorem bits_any (b : Nat) (w : World) (hb : b < 18446744073709551616) :
    Calls Tryz.prog 18 #[.float .f64 b] w fun e w' => e = .returned (.int .u64 ((canW b : Nat) : Int)) ∧ w = w' := by
  have N1 := Lib.hid fun W => isNaN_any b W hb
  have h1 := run_mbits b
  unfold canW
  by_cases h : nanW b
  · rw [if_pos h]
    rw [decide_eq_true h] at N1
    clear h
    go_enter Tryz.func18, Tryz.ntmps18
    go_wp2_with (fail)
    refine (N1.out _).mono ?_
    rintro e w' ⟨rfl, rfl⟩
    go_wp2
    go_ret
    exact ⟨rfl, rfl⟩
  · rw [if_neg h]
    rw [decide_eq_false h] at N1
    clear h
    go_enter Tryz.func18, Tryz.ntmps18
    go_wp2_with (fail)
    refine (N1.out _).mono ?_
    rintro e w' ⟨rfl, rfl⟩
    go_wp2
    go_ret
    exact ⟨rfl, rfl⟩

set_option maxRecDepth 100000 in
set_option maxHeartbeats 1000000 in
theorem rbits_any (b : Nat) (w : World) (hb : b < 18446744073709551616) :
    Calls Tryz.prog 19 #[.float .f64 b] w fun e w' => e = .returned (.int .u64 ((canW b : Nat) : Int)) ∧ w = w' := by
  have h1 := run_mbits b
  obtain ⟨q, hq⟩ : ∃ q, b / 4503599627370496 = q := ⟨_, rfl⟩
  have hqi : (b : Int) / 4503599627370496 = (q : Int) := by omega
  have hql : q < 4096 := by omega
  obtain ⟨ex, hex⟩ : ∃ ex, q % 2048 = ex := ⟨_, rfl⟩
  obtain ⟨fr, hfr⟩ : ∃ fr, b % 4503599627370496 = fr := ⟨_, rfl⟩
  have b1 : bits .and .u64 (q : Int) 2047 = (ex : Int) := by
    have h := u64_and_nat q 2047 (by omega) (by decide)
    have h2 : q &&& 2047 = ex := by rw [nat_mask11, hex]
    rw [h2] at h
    exact h
  have b2 : bits .and .u64 (b : Int) 4503599627370495 = (fr : Int) := by
    have h := u64_and_nat b 4503599627370495 hb (by decide)
    have h2 : b &&& 4503599627370495 = fr := by
      rw [show b &&& 4503599627370495 = b % 2 ^ 52 from Nat.and_two_pow_sub_one_eq_mod b 52]
      exact hfr
    rw [h2] at h
    exact h
  unfold canW
  by_cases he : ex = 2047
  · by_cases hf : fr = 0
    · have hn : ¬ nanW b := by unfold nanW; omega
      have d1 : ((ex : Int) == 2047) = true := by rw [beq_iff_eq]; omega
      have d2 : ((fr : Int) == 0) = true := by rw [beq_iff_eq]; omega
      rw [if_neg hn]
      clear hn hq hex hfr he hf
      go_enter Tryz.func19, Tryz.ntmps19
      go_wp2
      go_ret
      exact ⟨rfl, rfl⟩
    · have hn : nanW b := by unfold nanW; omega
      have d1 : ((ex : Int) == 2047) = true := by rw [beq_iff_eq]; omega
      have d2 : ((fr : Int) == 0) = false := by rw [beq_eq_false_iff_ne]; omega
      rw [if_pos hn]
      clear hn hq hex hfr he
      go_enter Tryz.func19, Tryz.ntmps19
      go_wp2
      go_ret
      exact ⟨rfl, rfl⟩
  · have hn : ¬ nanW b := by unfold nanW; omega
    have d1 : ((ex : Int) == 2047) = false := by rw [beq_eq_false_iff_ne]; omega
    rw [if_neg hn]
    clear hn hq hex hfr
    go_enter Tryz.func19, Tryz.ntmps19
    go_wp2
    go_ret
    exact ⟨rfl, rfl⟩

theorem canW_lt {b : Nat} (hb : b < 18446744073709551616) : canW b < 18446744073709551616 := by
  unfold canW
  split
  · decide
  · exact hb

set_option maxRecDepth 100000 in
set_option maxHeartbeats 1000000 in
theorem same_flo (a b : Nat) (w : World) (ha : a < 18446744073709551616) (hb : b < 18446744073709551616) :
    Calls Tryz.prog 16 #[.float .f64 a, .float .f64 b] w fun e w' => e = .returned (.bool (canW a == canW b)) ∧ w = w' := by
  have B1 := Lib.hid fun W => bits_any a W ha
  have B2 := Lib.hid fun W => bits_any b W hb
  have hA := canW_lt ha
  have hB := canW_lt hb
  generalize canW a = A at *
  generalize canW b = C at *
  have hd : ((A : Int) == (C : Int)) = (A == C) := by
    rw [Bool.eq_iff_iff, beq_iff_eq, beq_iff_eq]; omega
  go_enter Tryz.func16, Tryz.ntmps16
  go_wp2_with (fail)
  refine (B1.out _).mono ?_
  rintro e w' ⟨rfl, rfl⟩
  go_wp2_with (fail)
  refine (B2.out _).mono ?_
  rintro e w' ⟨rfl, rfl⟩
  go_wp2
  go_ret
  exact ⟨rfl, rfl⟩
set_option maxRecDepth 100000 in
set_option maxHeartbeats 1000000 in
theorem rsame_flo (a b : Nat) (w : World) (ha : a < 18446744073709551616) (hb : b < 18446744073709551616) :
    Calls Tryz.prog 20 #[.float .f64 a, .float .f64 b] w fun e w' => e = .returned (.bool (canW a == canW b)) ∧ w = w' := by
  have B1 := Lib.hid fun W => rbits_any a W ha
  have B2 := Lib.hid fun W => rbits_any b W hb
  have hA := canW_lt ha
  have hB := canW_lt hb
  generalize canW a = A at *
  generalize canW b = C at *
  have hd : ((A : Int) == (C : Int)) = (A == C) := by
    rw [Bool.eq_iff_iff, beq_iff_eq, beq_iff_eq]; omega
  go_enter Tryz.func20, Tryz.ntmps20
  go_wp2_with (fail)
  refine (B1.out _).mono ?_
  rintro e w' ⟨rfl, rfl⟩
  go_wp2_with (fail)
  refine (B2.out _).mono ?_
  rintro e w' ⟨rfl, rfl⟩
  go_wp2
  go_ret
  exact ⟨rfl, rfl⟩

end LM
end Go.Proofs.YtpoojlnndgoeoaaGreatDoor

namespace Go.Proofs.YtpoojlnndgoeoaaGreatDoor
open Go Go.RowKit
namespace LM
set_option linter.unusedVariables false

set_option maxRecDepth 100000 in
set_option maxHeartbeats 2000000 in
theorem bits_walk (a b : Nat) (w : World) (ha : a < 18446744073709551616) (hb : b < 18446744073709551616) (hv : FV w) :
    Calls Tryz.prog 4 #[.int .u64 (a : Int), .int .u64 (b : Int)] w fun e w' => e = .returned (.bool true) ∧ Below w.heap.size w w' := by
  have f1 := run_mfrom a
  have f2 := run_mfrom b
  have AL := Lib.hid (falive_any w hv)
  have B1 := Lib.hid fun W => bits_any a W ha
  have B2 := Lib.hid fun W => rbits_any a W ha
  have S1 := Lib.hid fun W => same_flo a b W ha hb
  have S2 := Lib.hid fun W => rsame_flo a b W ha hb
  generalize canW a = A at *
  generalize (A == canW b) = C at *
  clear hv
  go_enter Tryz.func4, Tryz.ntmps4
  go_wp2_with (fail)
  refine AL.out.mono ?_
  rintro e w1 ⟨rfl, hb1⟩
  go_wp2_with (fail)
  refine (B1.out _).mono ?_
  rintro e w' ⟨rfl, rfl⟩
  go_wp2_with (fail)
  refine (B2.out _).mono ?_
  rintro e w' ⟨rfl, rfl⟩
  go_wp2_with (fail)
  refine (S1.out _).mono ?_
  rintro e w' ⟨rfl, rfl⟩
  go_wp2_with (fail)
  refine (S2.out _).mono ?_
  rintro e w' ⟨rfl, rfl⟩
  go_wp2_with (fail)
  go_ret
  exact ⟨rfl, hb1⟩

end LM
end Go.Proofs.YtpoojlnndgoeoaaGreatDoor
