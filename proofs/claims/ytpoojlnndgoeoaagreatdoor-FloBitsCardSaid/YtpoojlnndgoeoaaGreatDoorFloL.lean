/- Walks of package math at one number. -/
import Derived.Test.YtpoojlnndgoeoaaGreatDoorFloJ
import Derived.Test.YtpoojlnndgoeoaaGreatDoorFloA
namespace Go.Proofs.YtpoojlnndgoeoaaGreatDoor
open Go Go.RowKit
namespace LM
set_option linter.unusedVariables false

/-- minus one hundred and fifty -/
abbrev M150 : Nat := 13862853709232340992

theorem run_archTrunc150 (W : World) : (callFunc 65 #[.float .f64 M150]).run Tryz.prog W = .ok (.value (.float .f64 M150)) W := by
  rw [run_callFunc_extern Tryz.func65 (by kernel_rfl) (by kernel_rfl) (e := Extern.MathFloor.toIntegral "math.archTrunc" .zero) (by kernel_rfl) (by kernel_rfl)]
  rfl
set_option maxHeartbeats 1000000 in
theorem trunc_150 (w : World) : Calls Tryz.prog 33 #[.float .f64 M150] w fun e w' => e = .returned (.float .f64 M150) ∧ w = w' := by
  have h1 := run_archTrunc150
  go_enter Tryz.func33, Tryz.ntmps33
  go_wp2
  go_ret
  exact ⟨rfl, rfl⟩
set_option maxHeartbeats 1000000 in
theorem isInf_any (b : Nat) (w : World) (x : Bool) (hb : b < 18446744073709551616) (h1 : (FloatKind.f64.format.order (b % 9223372036854775808) 9218868437227405311 == some .gt) = x) :
    Calls Tryz.prog 34 #[.float .f64 b, .int .i64 0] w fun e w' => e = .returned (.bool x) ∧ w = w' := by
  have A1 := Lib.hid fun W => abs_any b W hb
  go_enter Tryz.func34, Tryz.ntmps34
  go_wp2_with (refine (A1.out _).mono ?_; rintro e w' ⟨rfl, rfl⟩)
  go_ret
  exact ⟨rfl, rfl⟩
set_option maxHeartbeats 1000000 in
theorem normalize_any (b : Nat) (w : World) (hb : b < 18446744073709551616) (h1 : (FloatKind.f64.format.order (b % 9223372036854775808) 4503599627370496 == some .lt) = false) :
    Calls Tryz.prog 116 #[.float .f64 b] w fun e w' => e = .returned (.tuple #[.float .f64 b, .int .i64 0]) ∧ w = w' := by
  have A1 := Lib.hid fun W => abs_any b W hb
  go_enter Tryz.func116, Tryz.ntmps116
  go_wp2_with (refine (A1.out _).mono ?_; rintro e w' ⟨rfl, rfl⟩)
  go_ret2
  exact ⟨rfl, rfl⟩

set_option maxRecDepth 100000 in
set_option maxHeartbeats 2000000 in
theorem frexp_150 (w : World) : Calls Tryz.prog 82 #[.float .f64 M150] w fun e w' => (∃ fr, e = .returned (.tuple #[.float .f64 fr, .int .i64 8])) ∧ ∃ k, w' = w.drewN k := by
  have I1 := Lib.hid fun W => isInf_any M150 W false (by decide) (by decide)
  have N1 := Lib.hid fun W => isNaN_any M150 W (by decide)
  have M1 := Lib.hid fun W => normalize_any M150 W (by decide) (by decide)
  rw [show decide (nanW M150) = false from by decide] at N1
  have o1 : (FloatKind.f64.format.order M150 0 == some .eq) = false := by decide
  have h1 := run_mbits M150
  have b1 : bits .and .u64 3078 2047 = 1030 := by decide
  have b2 : bits .andNot .u64 13862853709232340992 9218868437227405312 = 9224146093040730112 := by decide
  have b3 : bits .or .u64 9224146093040730112 4602678819172646912 = 13826824912213377024 := by decide
  have h2 : ∀ W, (callFunc 17 #[.int .u64 13826824912213377024]).run Tryz.prog W = .ok (.value (.float .f64 13826824912213377024)) W := fun W => run_mfrom 13826824912213377024 W
  go_enter Tryz.func82, Tryz.ntmps82
  go_wp2_with (fail)
  refine (I1.out _).mono ?_
  rintro e w' ⟨rfl, rfl⟩
  go_wp2_with (fail)
  refine (N1.out _).mono ?_
  rintro e w' ⟨rfl, rfl⟩
  go_wp2_with (fail)
  refine (M1.out _).mono ?_
  rintro e w' ⟨rfl, rfl⟩
  go_wp2_with (fail)
  go_ret2
  exact ⟨⟨_, rfl⟩, 0, rfl⟩

set_option maxRecDepth 100000 in
set_option maxHeartbeats 2000000 in
theorem mfrexp_150 (w : World) : Calls Tryz.prog 51 #[.float .f64 M150] w fun e w' => (∃ fr, e = .returned (.tuple #[.float .f64 fr, .int .i64 8])) ∧ ∃ k, w' = w.drewN k := by
  have F1 := Lib.hid frexp_150
  go_enter Tryz.func51, Tryz.ntmps51
  go_wp2_with (fail)
  refine (F1.out _).mono ?_
  rintro e w' ⟨⟨fr, rfl⟩, k, rfl⟩
  go_wp2
  go_ret2
  exact ⟨⟨_, rfl⟩, k, rfl⟩

set_option maxRecDepth 100000 in
set_option maxHeartbeats 2000000 in
/-- a number times 2 to the power of nothing: of numbers that are normal -/
theorem ldexp_0 (b ex fr : Nat) (w : World) (hb : b < 18446744073709551616) (o1 : (FloatKind.f64.format.order b 0 == some .eq) = false) (hi : (FloatKind.f64.format.order (b % 9223372036854775808) 9218868437227405311 == some .gt) = false) (hn : ¬ nanW b) (h4 : (FloatKind.f64.format.order (b % 9223372036854775808) 4503599627370496 == some .lt) = false)
    (hex : b / 4503599627370496 % 2048 = ex) (he1 : 1 ≤ ex) (he2 : ex ≤ 2046) (b2 : bits .andNot .u64 (b : Int) 9218868437227405312 = (fr : Int)) (b3 : bits .or .u64 (fr : Int) ((ex * 4503599627370496 : Nat) : Int) = (b : Int)) (hm : floatBits .mul .f64 4607182418800017408 b = some b) :
    Calls Tryz.prog 86 #[.float .f64 b, .int .i64 0] w fun e w' => e = .returned (.float .f64 b) ∧ ∃ k, w' = w.drewN k := by
  have I1 := Lib.hid fun W => isInf_any b W false hb hi
  have N1 := Lib.hid fun W => isNaN_any b W hb
  have M1 := Lib.hid fun W => normalize_any b W hb h4
  rw [show decide (nanW b) = false from decide_eq_false hn] at N1
  have h1 := run_mbits b
  have h2 := run_mfrom b
  have hop : ∀ t W, (binOp .mul t (.float .f64 4607182418800017408) (.float .f64 b)).run Tryz.prog W = .ok (.float .f64 b) W := fun t W => run_float_arith W .mul t .f64 _ _ _ hm
  obtain ⟨bq, hbq⟩ : ∃ q, b / 4503599627370496 = q := ⟨_, rfl⟩
  have hbqi : (b : Int) / 4503599627370496 = (bq : Int) := by omega
  have hbql : bq < 4096 := by omega
  have b1 : bits .and .i64 (bq : Int) 2047 = (ex : Int) := by
    have h := i64_and_nat bq 2047 (by omega) (by decide)
    have h2 : bq &&& 2047 = ex := by rw [nat_mask11, ← hbq, hex]
    rw [h2] at h
    exact h
  obtain ⟨sh, hsh⟩ : ∃ sh, ex * 4503599627370496 = sh := ⟨_, rfl⟩
  have hshl : sh < 18446744073709551616 := by omega
  have hshi : (ex : Int) * 4503599627370496 = (sh : Int) := by omega
  have hq0 : (ex : Int) - 1023 + 1023 = (ex : Int) := by omega
  rw [hsh] at b3
  clear hbq hex hm hi hn h4 hsh
  go_enter Tryz.func86, Tryz.ntmps86
  go_wp2_with (fail)
  refine (I1.out _).mono ?_
  rintro e w' ⟨rfl, rfl⟩
  go_wp2_with (fail)
  refine (N1.out _).mono ?_
  rintro e w' ⟨rfl, rfl⟩
  go_wp2_with (fail)
  refine (M1.out _).mono ?_
  rintro e w' ⟨rfl, rfl⟩
  go_wp2_with (fail)
  go_ret
  exact ⟨rfl, 0, rfl⟩

set_option maxRecDepth 100000 in
set_option maxHeartbeats 2000000 in
theorem mldexp_0 (b ex fr : Nat) (w : World) (hb : b < 18446744073709551616) (o1 : (FloatKind.f64.format.order b 0 == some .eq) = false) (hi : (FloatKind.f64.format.order (b % 9223372036854775808) 9218868437227405311 == some .gt) = false) (hn : ¬ nanW b) (h4 : (FloatKind.f64.format.order (b % 9223372036854775808) 4503599627370496 == some .lt) = false)
    (hex : b / 4503599627370496 % 2048 = ex) (he1 : 1 ≤ ex) (he2 : ex ≤ 2046) (b2 : bits .andNot .u64 (b : Int) 9218868437227405312 = (fr : Int)) (b3 : bits .or .u64 (fr : Int) ((ex * 4503599627370496 : Nat) : Int) = (b : Int)) (hm : floatBits .mul .f64 4607182418800017408 b = some b) :
    Calls Tryz.prog 53 #[.float .f64 b, .int .i64 0] w fun e w' => e = .returned (.float .f64 b) ∧ ∃ k, w' = w.drewN k := by
  have L1 := Lib.hid (ldexp_0 b ex fr w hb o1 hi hn h4 hex he1 he2 b2 b3 hm)
  clear o1 hi hn h4 hex b2 b3 hm
  go_enter Tryz.func53, Tryz.ntmps53
  go_wp2_with (fail)
  refine L1.out.mono ?_
  rintro e w' ⟨rfl, k, rfl⟩
  go_wp2
  go_ret
  exact ⟨rfl, k, rfl⟩

theorem mldexp_150 (w : World) : Calls Tryz.prog 53 #[.float .f64 M150, .int .i64 0] w fun e w' => e = .returned (.float .f64 M150) ∧ ∃ k, w' = w.drewN k :=
  mldexp_0 M150 1030 9224146093040730112 w (by decide) (by decide) (by decide) (by decide) (by decide) (by decide) (by decide) (by decide) (by decide) (by decide) (by decide)

end LM
end Go.Proofs.YtpoojlnndgoeoaaGreatDoor
