/- What the walks of package flo ask of the package variables; the library's ParseFloat at one text. -/
import Derived.Test.YtcfhiihhfcnfbaaGreatDoorJ25
import Derived.Test.YtcfhiihhfcnfbaaGreatDoorJ26
import Derived.Test.YtcfhiihhfcnfbaaGreatDoorJ27
import Derived.Test.YtcfhiihhfcnfbaaGreatDoorJ12
import Derived.Handy
import Derived.Laws.MakeOwn
import Derived.Lib.IndexLaws
import Derived.Test.YtcfhiihhfcnfbaaGreatDoorJ24
import Derived.Test.YtcfhiihhfcnfbaaGreatDoorJ29
import Derived.Test.YtcfhiihhfcnfbaaGreatDoorJ37
import Derived.Laws.FloatArith
namespace Go.Proofs.YtcfhiihhfcnfbaaGreatDoor
open Go Go.Shelf Go.RowKit Go.Sort Go.Lib
namespace LM
set_option linter.unusedVariables false

theorem OB.made (w W1 : World) (cur : Array Value) (hc : cur.size = 24) (hB : Below w.heap.size w W1) (hz : w.heap.size ≤ W1.heap.size) : OB w.heap.size w 0 [] (.slice (some ⟨W1.heap.size, 0, none⟩) 0 24) [] (W1.alloc (.cells cur 5)) :=
  ⟨World.ownsRow_made W1 cur 24 hz (by decide) (by rw [hc]), hB.alloc hz _, by simp; omega, .inl rfl⟩

set_option maxRecDepth 100000 in
set_option maxHeartbeats 2000000 in
theorem iformat_any (b c : Nat) (text : List UInt8) (w : World) (ht : text ≠ []) (hc : c < 256)
    (hF : ∀ v w1, OB w.heap.size w 0 [] v [] w1 → Calls Tryz.prog 182 #[v, .float .f64 b, .int .u8 (c : Int), .int .i64 (-1)] w1 fun r w' => ∃ v' g ds, r = .returned v' ∧ OB w.heap.size w g ds v' text w') :
    Calls Tryz.prog 105 #[.float .f64 b, .int .u8 (c : Int), .int .i64 (-1), .int .i64 64] w fun e w' => e = .returned (.string ⟨text.toArray⟩) ∧ Below w.heap.size w w' := by
  have HF := Lib.hid hF
  have hmx : max (3 : Int) 24 = 24 := by decide
  obtain ⟨i0, hi0, hz0, hz1, hz2⟩ := info_parts8 u8_info
  have hmk : ∃ cur : Array Value, cur.size = 24 ∧ ∀ W, (Instr.makeSlice 64 (.int .i64 0) (.int .i64 24)).run Tryz.prog W = .ok (.slice (some ⟨W.heap.size, 0, none⟩) 0 24) (W.alloc (.cells cur 5)) :=
    ⟨madeCells (Value.int .u8 0).cells ((24 : Int).toNat * i0.size), by rw [hz1]; simp [madeCells], fun W => run_make W 64 5 i0 (.int .u8 0) Tryz.underlying64 hi0 hz0 .i64 .i64 0 24 (by decide) (by decide) (by rw [hz2]; decide) (by decide)⟩
  obtain ⟨cur, hcs, hmk⟩ := hmk
  clear hi0 hz0 hz1 hz2
  clear hF
  go_enter Tryz.func105, Tryz.ntmps105
  go_wp2_with (fail)
  refine (HF.out _ _ (OB.made w w cur hcs (Below.refl _ w) (Nat.le_refl _))).mono ?_
  rintro r w1 ⟨v', g, ds, rfl, hob⟩
  have hb1 := Lib.hid hob.2.1
  have hcv : (convert 64 9 v').run Tryz.prog w1 = .ok (.string ⟨text.toArray⟩) w1 := by
    rcases hob.1 with ⟨hx, ⟨rfl, h0⟩ | ⟨g1, cap, cur1, rfl, hbg, hgc, hnc, hcm, hcz, htake⟩⟩
    · exact absurd (List.eq_nil_of_length_eq_zero h0) ht
    · have h := run_convert_bytes_back (P := Tryz.prog) w1 64 9 5 ⟨g1, 0, none⟩ cap text Tryz.underlying64 Tryz.underlying5 Tryz.underlying9 (fun j hj => by
        rw [Lib.add_plain, Nat.zero_add, cell_of_row w1 g1 j cur1 _ (0, 0) hgc, ← Array.getElem?_toList]
        have h2 : (cur1.toList.take (text.length * 1))[j]? = (text.map enc8)[j]? := by rw [htake]
        rw [List.getElem?_take, if_pos (by omega), List.getElem?_map, List.getElem?_eq_getElem hj] at h2
        exact h2)
      exact h
  clear hob
  go_wp2
  go_ret
  exact ⟨rfl, hb1.out⟩

set_option maxRecDepth 100000 in
set_option maxHeartbeats 2000000 in
theorem format_any (b c : Nat) (text : List UInt8) (w : World) (ht : text ≠ []) (hc : c < 256)
    (hF : ∀ v w1, OB w.heap.size w 0 [] v [] w1 → Calls Tryz.prog 182 #[v, .float .f64 b, .int .u8 (c : Int), .int .i64 (-1)] w1 fun r w' => ∃ v' g ds, r = .returned v' ∧ OB w.heap.size w g ds v' text w') :
    Calls Tryz.prog 53 #[.float .f64 b, .int .u8 (c : Int), .int .i64 (-1), .int .i64 64] w fun e w' => e = .returned (.string ⟨text.toArray⟩) ∧ Below w.heap.size w w' := by
  have HF := Lib.hid (iformat_any b c text w ht hc hF)
  clear hF
  go_enter Tryz.func53, Tryz.ntmps53
  go_wp2_with (fail)
  refine HF.out.mono ?_
  rintro e w' ⟨rfl, hb⟩
  go_wp2
  go_ret
  exact ⟨rfl, hb⟩

/-- a text with a point, as it is, or with one behind it -/
def pointB (l : List UInt8) : List UInt8 := if 46 ∈ l then l else l ++ [46, 48]

set_option maxRecDepth 100000 in
set_option maxHeartbeats 2000000 in
theorem pointed_any (l : List UInt8) (w : World) (hl : l.length ≤ 1000000) :
    Calls Tryz.prog 52 #[.string ⟨l.toArray⟩] w fun e w' => e = .returned (.string ⟨(pointB l).toArray⟩) ∧ w = w' := by
  have hC := fun W => Tryz.strings_Contains_one ⟨l.toArray⟩ 46 W
  by_cases h : 46 ∈ l
  · have e : decide (0 ≤ indexByte (⟨l.toArray⟩ : ByteArray).data.toList 46) = true := decide_eq_true (by
      have h2 := indexByte_ge l 46
      have h3 : indexByte l 46 ≠ -1 := fun hn => by
        obtain ⟨k, hk⟩ := List.mem_iff_getElem?.1 h
        exact indexByte_none hn k hk
      show 0 ≤ indexByte l 46
      omega)
    rw [e] at hC
    have HC := Lib.hid hC
    have hp : pointB l = l := by unfold pointB; rw [if_pos h]
    rw [hp]
    clear hC e hp h
    go_enter Tryz.func52, Tryz.ntmps52
    go_wp2_with (fail)
    refine (HC.out _).mono ?_
    rintro e w' ⟨rfl, rfl⟩
    go_wp2
    go_ret
    exact ⟨rfl, rfl⟩
  · have e : decide (0 ≤ indexByte (⟨l.toArray⟩ : ByteArray).data.toList 46) = false := decide_eq_false (by
      show ¬ 0 ≤ indexByte l 46
      intro h0
      obtain ⟨o, ho⟩ : ∃ o : Nat, indexByte l 46 = o := ⟨(indexByte l 46).toNat, by omega⟩
      exact h (List.mem_iff_getElem?.2 ⟨o, (indexByte_some ho).1⟩))
    rw [e] at hC
    have HC := Lib.hid hC
    have hp : pointB l = l ++ [46, 48] := by unfold pointB; rw [if_neg h]
    have HP := Lib.hid hp
    have hsz : (⟨l.toArray⟩ : ByteArray).size ≤ 1000000 := by rw [Lib.size_eq]; exact hl
    have hcat : (⟨l.toArray⟩ : ByteArray) ++ ⟨#[46, 48]⟩ = ⟨(l ++ [46, 48]).toArray⟩ := by
      apply ByteArray.ext
      simp
    have HCAT := Lib.hid hcat
    generalize hS : (⟨l.toArray⟩ : ByteArray) = S at HC hsz HCAT ⊢
    clear hC e hp h hcat hS
    go_enter Tryz.func52, Tryz.ntmps52
    go_wp2_with (fail)
    refine (HC.out _).mono ?_
    rintro e w' ⟨rfl, rfl⟩
    go_wp2
    go_ret
    refine ⟨?_, rfl⟩
    rw [HP.out, ← HCAT.out]
    rfl

theorem abs_bits (b : Nat) (hb : b < 18446744073709551616) : bits .andNot .u64 (b : Int) 9223372036854775808 = ((b % 9223372036854775808 : Nat) : Int) := by
  have h := u64_andNot_nat b 9223372036854775808 hb (by decide)
  have h2 : b &&& (18446744073709551615 - 9223372036854775808) = b % 2 ^ 63 := Nat.and_two_pow_sub_one_eq_mod b 63
  rw [h2] at h
  exact h
set_option maxHeartbeats 1000000 in
theorem abs_any (b : Nat) (w : World) (hb : b < 18446744073709551616) :
    Calls Tryz.prog 50 #[.float .f64 b] w fun e w' => e = .returned (.float .f64 (b % 9223372036854775808)) ∧ w = w' := by
  have h1 := run_mbits b
  have h2 := abs_bits b hb
  obtain ⟨a, ha⟩ : ∃ a, b % 9223372036854775808 = a := ⟨_, rfl⟩
  have h3 := run_mfrom a
  rw [ha] at h2 ⊢
  clear ha
  go_enter Tryz.func50, Tryz.ntmps50
  go_wp2
  go_ret
  exact ⟨rfl, rfl⟩
set_option maxHeartbeats 1000000 in
theorem isNaN_any (b : Nat) (w : World) (hb : b < 18446744073709551616) :
    Calls Tryz.prog 22 #[.float .f64 b] w fun e w' => e = .returned (.bool (decide (nanW b))) ∧ w = w' := by
  have h1 := order_self b hb
  by_cases h : nanW b
  · rw [if_pos h] at h1
    have h2 : FloatKind.f64.format.order b b = none := h1
    rw [decide_eq_true h]
    clear h1 h
    go_enter Tryz.func22, Tryz.ntmps22
    go_wp2
    go_ret
    exact ⟨rfl, rfl⟩
  · rw [if_neg h] at h1
    have h2 : FloatKind.f64.format.order b b = some .eq := h1
    rw [decide_eq_false h]
    clear h1 h
    go_enter Tryz.func22, Tryz.ntmps22
    go_wp2
    go_ret
    exact ⟨rfl, rfl⟩

end LM
end Go.Proofs.YtcfhiihhfcnfbaaGreatDoor

namespace Go.Proofs.YtcfhiihhfcnfbaaGreatDoor
open Go Go.RowKit
namespace LM
set_option linter.unusedVariables false

/-- minus one hundred and fifty -/
abbrev M150 : Nat := 13862853709232340992

theorem run_archTrunc150 (W : World) : (callFunc 159 #[.float .f64 M150]).run Tryz.prog W = .ok (.value (.float .f64 M150)) W := by
  rw [run_callFunc_extern Tryz.func159 (by kernel_rfl) (by kernel_rfl) (e := Extern.MathFloor.toIntegral "math.archTrunc" .zero) (by kernel_rfl) (by kernel_rfl)]
  rfl
set_option maxHeartbeats 1000000 in
theorem trunc_150 (w : World) : Calls Tryz.prog 89 #[.float .f64 M150] w fun e w' => e = .returned (.float .f64 M150) ∧ w = w' := by
  have h1 := run_archTrunc150
  go_enter Tryz.func89, Tryz.ntmps89
  go_wp2
  go_ret
  exact ⟨rfl, rfl⟩
set_option maxHeartbeats 1000000 in
theorem isInf_any (b : Nat) (w : World) (x : Bool) (hb : b < 18446744073709551616) (h1 : (FloatKind.f64.format.order (b % 9223372036854775808) 9218868437227405311 == some .gt) = x) :
    Calls Tryz.prog 51 #[.float .f64 b, .int .i64 0] w fun e w' => e = .returned (.bool x) ∧ w = w' := by
  have A1 := Lib.hid fun W => abs_any b W hb
  go_enter Tryz.func51, Tryz.ntmps51
  go_wp2_with (refine (A1.out _).mono ?_; rintro e w' ⟨rfl, rfl⟩)
  go_ret
  exact ⟨rfl, rfl⟩
set_option maxHeartbeats 1000000 in
theorem normalize_any (b : Nat) (w : World) (hb : b < 18446744073709551616) (h1 : (FloatKind.f64.format.order (b % 9223372036854775808) 4503599627370496 == some .lt) = false) :
    Calls Tryz.prog 234 #[.float .f64 b] w fun e w' => e = .returned (.tuple #[.float .f64 b, .int .i64 0]) ∧ w = w' := by
  have A1 := Lib.hid fun W => abs_any b W hb
  go_enter Tryz.func234, Tryz.ntmps234
  go_wp2_with (refine (A1.out _).mono ?_; rintro e w' ⟨rfl, rfl⟩)
  go_ret2
  exact ⟨rfl, rfl⟩

set_option maxRecDepth 100000 in
set_option maxHeartbeats 2000000 in
theorem frexp_150 (w : World) : Calls Tryz.prog 162 #[.float .f64 M150] w fun e w' => (∃ fr, e = .returned (.tuple #[.float .f64 fr, .int .i64 8])) ∧ ∃ k, w' = w.drewN k := by
  have I1 := Lib.hid fun W => isInf_any M150 W false (by decide) (by decide)
  have N1 := Lib.hid fun W => isNaN_any M150 W (by decide)
  have M1 := Lib.hid fun W => normalize_any M150 W (by decide) (by decide)
  rw [show decide (nanW M150) = false from by decide] at N1
  have o1 : (FloatKind.f64.format.order M150 0 == some .eq) = false := by decide
  have h1 := run_mbits M150
  have b1 : bits .and .u64 3078 2047 = 1030 := by decide
  have b2 : bits .andNot .u64 13862853709232340992 9218868437227405312 = 9224146093040730112 := by decide
  have b3 : bits .or .u64 9224146093040730112 4602678819172646912 = 13826824912213377024 := by decide
  have h2 : ∀ W, (callFunc 14 #[.int .u64 13826824912213377024]).run Tryz.prog W = .ok (.value (.float .f64 13826824912213377024)) W := fun W => run_mfrom 13826824912213377024 W
  go_enter Tryz.func162, Tryz.ntmps162
  go_wp2_with (fail)
  refine (I1.out _).mono ?_
  rintro e w' ⟨rfl, rfl⟩
  go_wp2_with (fail)
  refine (N1.out _).mono ?_
  rintro e w' ⟨rfl, rfl⟩
  go_wp2_with (fail)
  refine (M1.out _).mono ?_
  rintro e w' ⟨rfl, rfl⟩
  go_wp2_with (fail)
  go_ret2
  exact ⟨⟨_, rfl⟩, 0, rfl⟩

set_option maxRecDepth 100000 in
set_option maxHeartbeats 2000000 in
theorem mfrexp_150 (w : World) : Calls Tryz.prog 90 #[.float .f64 M150] w fun e w' => (∃ fr, e = .returned (.tuple #[.float .f64 fr, .int .i64 8])) ∧ ∃ k, w' = w.drewN k := by
  have F1 := Lib.hid frexp_150
  go_enter Tryz.func90, Tryz.ntmps90
  go_wp2_with (fail)
  refine (F1.out _).mono ?_
  rintro e w' ⟨⟨fr, rfl⟩, k, rfl⟩
  go_wp2
  go_ret2
  exact ⟨⟨_, rfl⟩, k, rfl⟩

set_option maxRecDepth 100000 in
set_option maxHeartbeats 2000000 in
/-- a number times 2 to the power of nothing: of numbers that are normal -/
theorem ldexp_0 (b ex fr : Nat) (w : World) (hb : b < 18446744073709551616) (o1 : (FloatKind.f64.format.order b 0 == some .eq) = false) (hi : (FloatKind.f64.format.order (b % 9223372036854775808) 9218868437227405311 == some .gt) = false) (hn : ¬ nanW b) (h4 : (FloatKind.f64.format.order (b % 9223372036854775808) 4503599627370496 == some .lt) = false)
    (hex : b / 4503599627370496 % 2048 = ex) (he1 : 1 ≤ ex) (he2 : ex ≤ 2046) (b2 : bits .andNot .u64 (b : Int) 9218868437227405312 = (fr : Int)) (b3 : bits .or .u64 (fr : Int) ((ex * 4503599627370496 : Nat) : Int) = (b : Int)) (hm : floatBits .mul .f64 4607182418800017408 b = some b) :
    Calls Tryz.prog 166 #[.float .f64 b, .int .i64 0] w fun e w' => e = .returned (.float .f64 b) ∧ ∃ k, w' = w.drewN k := by
  have I1 := Lib.hid fun W => isInf_any b W false hb hi
  have N1 := Lib.hid fun W => isNaN_any b W hb
  have M1 := Lib.hid fun W => normalize_any b W hb h4
  rw [show decide (nanW b) = false from decide_eq_false hn] at N1
  have h1 := run_mbits b
  have h2 := run_mfrom b
  have hop : ∀ t W, (binOp .mul t (.float .f64 4607182418800017408) (.float .f64 b)).run Tryz.prog W = .ok (.float .f64 b) W := fun t W => run_float_arith W .mul t .f64 _ _ _ hm
  obtain ⟨bq, hbq⟩ : ∃ q, b / 4503599627370496 = q := ⟨_, rfl⟩
  have hbqi : (b : Int) / 4503599627370496 = (bq : Int) := by omega
  have hbql : bq < 4096 := by omega
  have b1 : bits .and .i64 (bq : Int) 2047 = (ex : Int) := by
    have h := i64_and_nat bq 2047 (by omega) (by decide)
    have h2 : bq &&& 2047 = ex := by rw [nat_mask11, ← hbq, hex]
    rw [h2] at h
    exact h
  obtain ⟨sh, hsh⟩ : ∃ sh, ex * 4503599627370496 = sh := ⟨_, rfl⟩
  have hshl : sh < 18446744073709551616 := by omega
  have hshi : (ex : Int) * 4503599627370496 = (sh : Int) := by omega
  have hq0 : (ex : Int) - 1023 + 1023 = (ex : Int) := by omega
  rw [hsh] at b3
  clear hbq hex hm hi hn h4 hsh
  go_enter Tryz.func166, Tryz.ntmps166
  go_wp2_with (fail)
  refine (I1.out _).mono ?_
  rintro e w' ⟨rfl, rfl⟩
  go_wp2_with (fail)
  refine (N1.out _).mono ?_
  rintro e w' ⟨rfl, rfl⟩
  go_wp2_with (fail)
  refine (M1.out _).mono ?_
  rintro e w' ⟨rfl, rfl⟩
  go_wp2_with (fail)
  go_ret
  exact ⟨rfl, 0, rfl⟩

set_option maxRecDepth 100000 in
set_option maxHeartbeats 2000000 in
theorem mldexp_0 (b ex fr : Nat) (w : World) (hb : b < 18446744073709551616) (o1 : (FloatKind.f64.format.order b 0 == some .eq) = false) (hi : (FloatKind.f64.format.order (b % 9223372036854775808) 9218868437227405311 == some .gt) = false) (hn : ¬ nanW b) (h4 : (FloatKind.f64.format.order (b % 9223372036854775808) 4503599627370496 == some .lt) = false)
    (hex : b / 4503599627370496 % 2048 = ex) (he1 : 1 ≤ ex) (he2 : ex ≤ 2046) (b2 : bits .andNot .u64 (b : Int) 9218868437227405312 = (fr : Int)) (b3 : bits .or .u64 (fr : Int) ((ex * 4503599627370496 : Nat) : Int) = (b : Int)) (hm : floatBits .mul .f64 4607182418800017408 b = some b) :
    Calls Tryz.prog 92 #[.float .f64 b, .int .i64 0] w fun e w' => e = .returned (.float .f64 b) ∧ ∃ k, w' = w.drewN k := by
  have L1 := Lib.hid (ldexp_0 b ex fr w hb o1 hi hn h4 hex he1 he2 b2 b3 hm)
  clear o1 hi hn h4 hex b2 b3 hm
  go_enter Tryz.func92, Tryz.ntmps92
  go_wp2_with (fail)
  refine L1.out.mono ?_
  rintro e w' ⟨rfl, k, rfl⟩
  go_wp2
  go_ret
  exact ⟨rfl, k, rfl⟩

theorem mldexp_150 (w : World) : Calls Tryz.prog 92 #[.float .f64 M150, .int .i64 0] w fun e w' => e = .returned (.float .f64 M150) ∧ ∃ k, w' = w.drewN k :=
  mldexp_0 M150 1030 9224146093040730112 w (by decide) (by decide) (by decide) (by decide) (by decide) (by decide) (by decide) (by decide) (by decide) (by decide) (by decide)

end LM
end Go.Proofs.YtcfhiihhfcnfbaaGreatDoor

namespace Go.Proofs.YtcfhiihhfcnfbaaGreatDoor
open Go Go.RowKit
namespace LM
set_option linter.unusedVariables false

set_option maxRecDepth 100000 in
set_option maxHeartbeats 2000000 in
theorem frexp_raw (b ex f2 y : Nat) (w : World) (hb : b < 18446744073709551616) (o1 : (FloatKind.f64.format.order b 0 == some .eq) = false) (hi : (FloatKind.f64.format.order (b % 9223372036854775808) 9218868437227405311 == some .gt) = false) (hn : ¬ nanW b) (h4 : (FloatKind.f64.format.order (b % 9223372036854775808) 4503599627370496 == some .lt) = false)
    (hex : b / 4503599627370496 % 2048 = ex) (he1 : 1 ≤ ex) (he2 : ex ≤ 2046) (b2 : bits .andNot .u64 (b : Int) 9218868437227405312 = (f2 : Int)) (b3 : bits .or .u64 (f2 : Int) 4602678819172646912 = (y : Int)) :
    Calls Tryz.prog 162 #[.float .f64 b] w fun e w' => e = .returned (.tuple #[.float .f64 y, .int .i64 ((ex : Int) - 1022)]) ∧ ∃ k, w' = w.drewN k := by
  have I1 := Lib.hid fun W => isInf_any b W false hb hi
  have N1 := Lib.hid fun W => isNaN_any b W hb
  have M1 := Lib.hid fun W => normalize_any b W hb h4
  rw [show decide (nanW b) = false from decide_eq_false hn] at N1
  have h1 := run_mbits b
  have h2 := run_mfrom y
  obtain ⟨bq, hbq⟩ : ∃ q, b / 4503599627370496 = q := ⟨_, rfl⟩
  have hbqi : (b : Int) / 4503599627370496 = (bq : Int) := by omega
  have hbql : bq < 4096 := by omega
  have b1 : bits .and .u64 (bq : Int) 2047 = (ex : Int) := by
    have h := u64_and_nat bq 2047 (by omega) (by decide)
    have h2 : bq &&& 2047 = ex := by rw [nat_mask11, ← hbq, hex]
    rw [h2] at h
    exact h
  have hq0 : (ex : Int) - 1023 + 1 = (ex : Int) - 1022 := by omega
  have hq1 : (ex : Int) + -1023 + 1 = (ex : Int) - 1022 := by omega
  clear hbq hex hi hn h4
  go_enter Tryz.func162, Tryz.ntmps162
  go_wp2_with (fail)
  refine (I1.out _).mono ?_
  rintro e w' ⟨rfl, rfl⟩
  go_wp2_with (fail)
  refine (N1.out _).mono ?_
  rintro e w' ⟨rfl, rfl⟩
  go_wp2_with (fail)
  refine (M1.out _).mono ?_
  rintro e w' ⟨rfl, rfl⟩
  go_wp2_with (fail)
  go_ret2
  exact ⟨rfl, 0, rfl⟩

set_option maxRecDepth 100000 in
set_option maxHeartbeats 2000000 in
theorem mfrexp_raw (b y : Nat) (x : Int) (w : World) (h : Calls Tryz.prog 162 #[.float .f64 b] w fun e w' => e = .returned (.tuple #[.float .f64 y, .int .i64 x]) ∧ ∃ k, w' = w.drewN k) :
    Calls Tryz.prog 90 #[.float .f64 b] w fun e w' => e = .returned (.tuple #[.float .f64 y, .int .i64 x]) ∧ ∃ k, w' = w.drewN k := by
  have F1 := Lib.hid h
  clear h
  go_enter Tryz.func90, Tryz.ntmps90
  go_wp2_with (fail)
  refine F1.out.mono ?_
  rintro e w' ⟨rfl, k, rfl⟩
  go_wp2
  go_ret2
  exact ⟨rfl, k, rfl⟩

/-- at nought -/
theorem frexp_nought (b : Nat) (w : World) (o1 : (FloatKind.f64.format.order b 0 == some .eq) = true) :
    Calls Tryz.prog 162 #[.float .f64 b] w fun e w' => e = .returned (.tuple #[.float .f64 b, .int .i64 0]) ∧ ∃ k, w' = w.drewN k := by
  go_enter Tryz.func162, Tryz.ntmps162
  go_wp2_with (fail)
  go_ret2
  exact ⟨rfl, 0, rfl⟩

set_option maxRecDepth 100000 in
set_option maxHeartbeats 2000000 in
/-- a number times 2 to the power of x: where both are normal -/
theorem ldexp_raw (b ex f2 ex2 y : Nat) (x : Int) (w : World) (hb : b < 18446744073709551616) (o1 : (FloatKind.f64.format.order b 0 == some .eq) = false) (hi : (FloatKind.f64.format.order (b % 9223372036854775808) 9218868437227405311 == some .gt) = false) (hn : ¬ nanW b) (h4 : (FloatKind.f64.format.order (b % 9223372036854775808) 4503599627370496 == some .lt) = false)
    (hex : b / 4503599627370496 % 2048 = ex) (he1 : 1 ≤ ex) (he2 : ex ≤ 2046) (hx2 : x + ((ex : Int) - 1023) = (ex2 : Int) - 1023) (he3 : 1 ≤ ex2) (he4 : ex2 ≤ 2046)
    (b2 : bits .andNot .u64 (b : Int) 9218868437227405312 = (f2 : Int)) (b3 : bits .or .u64 (f2 : Int) ((ex2 * 4503599627370496 : Nat) : Int) = (y : Int)) (hm : floatBits .mul .f64 4607182418800017408 y = some y) :
    Calls Tryz.prog 166 #[.float .f64 b, .int .i64 x] w fun e w' => e = .returned (.float .f64 y) ∧ ∃ k, w' = w.drewN k := by
  have I1 := Lib.hid fun W => isInf_any b W false hb hi
  have N1 := Lib.hid fun W => isNaN_any b W hb
  have M1 := Lib.hid fun W => normalize_any b W hb h4
  rw [show decide (nanW b) = false from decide_eq_false hn] at N1
  have h1 := run_mbits b
  have h2 := run_mfrom y
  have hop : ∀ t W, (binOp .mul t (.float .f64 4607182418800017408) (.float .f64 y)).run Tryz.prog W = .ok (.float .f64 y) W := fun t W => run_float_arith W .mul t .f64 _ _ _ hm
  obtain ⟨bq, hbq⟩ : ∃ q, b / 4503599627370496 = q := ⟨_, rfl⟩
  have hbqi : (b : Int) / 4503599627370496 = (bq : Int) := by omega
  have hbql : bq < 4096 := by omega
  have b1 : bits .and .i64 (bq : Int) 2047 = (ex : Int) := by
    have h := i64_and_nat bq 2047 (by omega) (by decide)
    have h2 : bq &&& 2047 = ex := by rw [nat_mask11, ← hbq, hex]
    rw [h2] at h
    exact h
  obtain ⟨sh, hsh⟩ : ∃ sh, ex2 * 4503599627370496 = sh := ⟨_, rfl⟩
  have hshl : sh < 18446744073709551616 := by omega
  have hshi : (ex2 : Int) * 4503599627370496 = (sh : Int) := by omega
  obtain ⟨z, hz⟩ : ∃ z : Int, x + ((ex : Int) - 1023) = z := ⟨_, rfl⟩
  have hz2 : x + (ex : Int) - 1023 = z := by omega
  have hzl : z < 1024 := by omega
  have hzg : -1023 < z := by omega
  have hz3 : z + 1023 = (ex2 : Int) := by omega
  have hxb : -3100 < x := by omega
  have hxc : x < 3100 := by omega
  rw [hsh] at b3
  clear hbq hex hm hi hn h4 hsh hx2
  go_enter Tryz.func166, Tryz.ntmps166
  go_wp2_with (fail)
  refine (I1.out _).mono ?_
  rintro e w' ⟨rfl, rfl⟩
  go_wp2_with (fail)
  refine (N1.out _).mono ?_
  rintro e w' ⟨rfl, rfl⟩
  go_wp2_with (fail)
  refine (M1.out _).mono ?_
  rintro e w' ⟨rfl, rfl⟩
  go_wp2_with (fail)
  go_ret
  exact ⟨rfl, 0, rfl⟩

set_option maxRecDepth 100000 in
set_option maxHeartbeats 2000000 in
theorem mldexp_raw (b y : Nat) (x : Int) (w : World) (h : Calls Tryz.prog 166 #[.float .f64 b, .int .i64 x] w fun e w' => e = .returned (.float .f64 y) ∧ ∃ k, w' = w.drewN k) :
    Calls Tryz.prog 92 #[.float .f64 b, .int .i64 x] w fun e w' => e = .returned (.float .f64 y) ∧ ∃ k, w' = w.drewN k := by
  have L1 := Lib.hid h
  clear h
  go_enter Tryz.func92, Tryz.ntmps92
  go_wp2_with (fail)
  refine L1.out.mono ?_
  rintro e w' ⟨rfl, k, rfl⟩
  go_wp2
  go_ret
  exact ⟨rfl, k, rfl⟩
theorem ldexp_nought (b : Nat) (x : Int) (w : World) (o1 : (FloatKind.f64.format.order b 0 == some .eq) = true) :
    Calls Tryz.prog 166 #[.float .f64 b, .int .i64 x] w fun e w' => e = .returned (.float .f64 b) ∧ ∃ k, w' = w.drewN k := by
  go_enter Tryz.func166, Tryz.ntmps166
  go_wp2_with (fail)
  go_ret
  exact ⟨rfl, 0, rfl⟩

end LM
end Go.Proofs.YtcfhiihhfcnfbaaGreatDoor

namespace Go.Proofs.YtcfhiihhfcnfbaaGreatDoor
open Go Go.RowKit
namespace LM
set_option linter.unusedVariables false

theorem word_y (s : Bool) (m : Nat) (e : Int) (h1 : 4503599627370496 ≤ m) (h2 : m < 9007199254740992) (h3 : -1074 ≤ e) :
    (if s then 1 else 0) * 9223372036854775808 + (e + 1075).toNat * 4503599627370496 + (m - 4503599627370496) = wordF s m e := by
  unfold wordF
  obtain ⟨k, hk⟩ : ∃ k : Nat, e = k - 1074 := ⟨(e + 1074).toNat, by omega⟩
  subst hk
  rw [show ((k : Int) - 1074 + 1074).toNat = k from by omega, show ((k : Int) - 1074 + 1075).toNat = k + 1 from by omega]
  cases s <;> simp <;> omega

theorem frexp_can {s : Bool} {m : Nat} {e : Int} (h : CanF m e) (hn : 4503599627370496 ≤ m) (w : World) :
    Calls Tryz.prog 90 #[.float .f64 (wordF s m e)] w fun r w' => (∃ y, r = .returned (.tuple #[.float .f64 y, .int .i64 (e + 53)])) ∧ ∃ k, w' = w.drewN k := by
  obtain ⟨p1, p2, p3, p4⟩ := word_parts (s := s) h hn
  obtain ⟨h1, h2, h3, -⟩ := h
  have hc := exp_clear (wordF s m e) p1
  rw [p3, p4] at hc
  have hs := exp_set (if s then 1 else 0) (m - 4503599627370496) 1022 (by split <;> omega) (by omega) (by decide)
  have hf := frexp_raw (wordF s m e) (e + 1075).toNat _ _ w p1 ((canf_zero ⟨h1, h2, h3, .inl hn⟩).trans (decide_eq_false (by omega))) (can_inf ⟨h1, h2, h3, .inl hn⟩) (can_nan ⟨h1, h2, h3, .inl hn⟩) (can_norm ⟨h1, h2, h3, .inl hn⟩ hn) p2 (by omega) (by omega) hc hs
  rw [show (((e + 1075).toNat : Nat) : Int) - 1022 = e + 53 from by omega] at hf
  refine (mfrexp_raw _ _ _ w hf).mono ?_
  rintro r w' ⟨rfl, hk⟩
  exact ⟨⟨_, rfl⟩, hk⟩

theorem mul_bits {x y r : Nat} (h : Ieee.double.mul x y = some r) : floatBits .mul .f64 x y = some r := h

theorem ldexp_can {s : Bool} {m : Nat} {e : Int} (h : CanF m e) (hn : 4503599627370496 ≤ m) (x : Int) (hx1 : -1074 ≤ e + x) (hx2 : e + x ≤ 971) (w : World) :
    Calls Tryz.prog 92 #[.float .f64 (wordF s m e), .int .i64 x] w fun r w' => r = .returned (.float .f64 (wordF s m (e + x))) ∧ ∃ k, w' = w.drewN k := by
  obtain ⟨p1, p2, p3, p4⟩ := word_parts (s := s) h hn
  obtain ⟨h1, h2, h3, -⟩ := h
  have hc := exp_clear (wordF s m e) p1
  rw [p3, p4] at hc
  have hs := exp_set (if s then 1 else 0) (m - 4503599627370496) (e + x + 1075).toNat (by split <;> omega) (by omega) (by omega)
  rw [word_y s m (e + x) hn h1 hx1] at hs
  exact mldexp_raw _ _ _ w (ldexp_raw (wordF s m e) (e + 1075).toNat _ (e + x + 1075).toNat (wordF s m (e + x)) x w p1 ((canf_zero ⟨h1, h2, h3, .inl hn⟩).trans (decide_eq_false (by omega))) (can_inf ⟨h1, h2, h3, .inl hn⟩) (can_nan ⟨h1, h2, h3, .inl hn⟩) (can_norm ⟨h1, h2, h3, .inl hn⟩ hn) p2 (by omega) (by omega) (by omega) (by omega) (by omega) hc hs (mul_bits (mul_one ⟨h1, hx1, hx2, .inl hn⟩)))

theorem frexp_zero (s : Bool) (w : World) : Calls Tryz.prog 90 #[.float .f64 (wordF s 0 (-1074))] w fun r w' => (∃ y, r = .returned (.tuple #[.float .f64 y, .int .i64 0])) ∧ ∃ k, w' = w.drewN k := by
  have hc : CanF 0 (-1074) := by unfold CanF; decide
  refine (mfrexp_raw _ _ _ w (frexp_nought _ w ((canf_zero hc).trans rfl))).mono ?_
  rintro r w' ⟨rfl, hk⟩
  exact ⟨⟨_, rfl⟩, hk⟩
theorem ldexp_zero (s : Bool) (x : Int) (w : World) : Calls Tryz.prog 92 #[.float .f64 (wordF s 0 (-1074)), .int .i64 x] w fun r w' => r = .returned (.float .f64 (wordF s 0 (-1074))) ∧ ∃ k, w' = w.drewN k := by
  have hc : CanF 0 (-1074) := by unfold CanF; decide
  exact mldexp_raw _ _ _ w (ldexp_nought _ x w ((canf_zero hc).trans rfl))

theorem run_archFloor {s : Bool} {m : Nat} {e : Int} (h : CanF m e) (W : World) : (callFunc 193 #[.float .f64 (wordF s m e)]).run Tryz.prog W = .ok (.value (.float .f64 (Ieee.double.write ((Ieee.Datum.number s m e).integral .down)))) W := by
  rw [run_callFunc_extern Tryz.func193 (by kernel_rfl) (by kernel_rfl) (e := Extern.MathFloor.toIntegral "math.archFloor" .down) (by kernel_rfl) (by kernel_rfl)]
  have h2 := toIntegral_num Tryz.prog W "math.archFloor" .down (wordF s m e) (read_word h)
  simp only [h2]
  rfl
theorem run_archTrunc {s : Bool} {m : Nat} {e : Int} (h : CanF m e) (W : World) : (callFunc 159 #[.float .f64 (wordF s m e)]).run Tryz.prog W = .ok (.value (.float .f64 (Ieee.double.write ((Ieee.Datum.number s m e).integral .zero)))) W := by
  rw [run_callFunc_extern Tryz.func159 (by kernel_rfl) (by kernel_rfl) (e := Extern.MathFloor.toIntegral "math.archTrunc" .zero) (by kernel_rfl) (by kernel_rfl)]
  have h2 := toIntegral_num Tryz.prog W "math.archTrunc" .zero (wordF s m e) (read_word h)
  simp only [h2]
  rfl

set_option maxHeartbeats 1000000 in
theorem floor_can {s : Bool} {m : Nat} {e : Int} (h : CanF m e) (w : World) : Calls Tryz.prog 120 #[.float .f64 (wordF s m e)] w fun r w' => r = .returned (.float .f64 (Ieee.double.write ((Ieee.Datum.number s m e).integral .down))) ∧ w = w' := by
  have h1 := run_archFloor (s := s) h
  generalize Ieee.double.write ((Ieee.Datum.number s m e).integral .down) = y at h1 ⊢
  generalize wordF s m e = x at h1 ⊢
  clear h
  go_enter Tryz.func120, Tryz.ntmps120
  go_wp2
  go_ret
  exact ⟨rfl, rfl⟩
set_option maxHeartbeats 1000000 in
theorem trunc_can {s : Bool} {m : Nat} {e : Int} (h : CanF m e) (w : World) : Calls Tryz.prog 89 #[.float .f64 (wordF s m e)] w fun r w' => r = .returned (.float .f64 (Ieee.double.write ((Ieee.Datum.number s m e).integral .zero))) ∧ w = w' := by
  have h1 := run_archTrunc (s := s) h
  generalize Ieee.double.write ((Ieee.Datum.number s m e).integral .zero) = y at h1 ⊢
  generalize wordF s m e = x at h1 ⊢
  clear h
  go_enter Tryz.func89, Tryz.ntmps89
  go_wp2
  go_ret
  exact ⟨rfl, rfl⟩

end LM
end Go.Proofs.YtcfhiihhfcnfbaaGreatDoor

namespace Go.Proofs.YtcfhiihhfcnfbaaGreatDoor
open Go Go.RowKit
namespace LM
set_option linter.unusedVariables false

/-- a word in one form -/
def canW (b : Nat) : Nat := if nanW b then 9221120237041090561 else b

set_option maxRecDepth 100000 in
set_option maxHeartbeats 1000000 in
theorem bits_any (b : Nat) (w : World) (hb : b < 18446744073709551616) :
    Calls Tryz.prog 199 #[.float .f64 b] w fun e w' => e = .returned (.int .u64 ((canW b : Nat) : Int)) ∧ w = w' := by
  have N1 := Lib.hid fun W => isNaN_any b W hb
  have h1 := run_mbits b
  unfold canW
  by_cases h : nanW b
  · rw [if_pos h]
    rw [decide_eq_true h] at N1
    clear h
    go_enter Tryz.func199, Tryz.ntmps199
    go_wp2_with (fail)
    refine (N1.out _).mono ?_
    rintro e w' ⟨rfl, rfl⟩
    go_wp2
    go_ret
    exact ⟨rfl, rfl⟩
  · rw [if_neg h]
    rw [decide_eq_false h] at N1
    clear h
    go_enter Tryz.func199, Tryz.ntmps199
    go_wp2_with (fail)
    refine (N1.out _).mono ?_
    rintro e w' ⟨rfl, rfl⟩
    go_wp2
    go_ret
    exact ⟨rfl, rfl⟩

set_option maxRecDepth 100000 in
set_option maxHeartbeats 1000000 in
theorem rbits_any (b : Nat) (w : World) (hb : b < 18446744073709551616) :
    Calls Tryz.prog 57 #[.float .f64 b] w fun e w' => e = .returned (.int .u64 ((canW b : Nat) : Int)) ∧ w = w' := by
  have h1 := run_mbits b
  obtain ⟨q, hq⟩ : ∃ q, b / 4503599627370496 = q := ⟨_, rfl⟩
  have hqi : (b : Int) / 4503599627370496 = (q : Int) := by omega
  have hql : q < 4096 := by omega
  obtain ⟨ex, hex⟩ : ∃ ex, q % 2048 = ex := ⟨_, rfl⟩
  obtain ⟨fr, hfr⟩ : ∃ fr, b % 4503599627370496 = fr := ⟨_, rfl⟩
  have b1 : bits .and .u64 (q : Int) 2047 = (ex : Int) := by
    have h := u64_and_nat q 2047 (by omega) (by decide)
    have h2 : q &&& 2047 = ex := by rw [nat_mask11, hex]
    rw [h2] at h
    exact h
  have b2 : bits .and .u64 (b : Int) 4503599627370495 = (fr : Int) := by
    have h := u64_and_nat b 4503599627370495 hb (by decide)
    have h2 : b &&& 4503599627370495 = fr := by
      rw [show b &&& 4503599627370495 = b % 2 ^ 52 from Nat.and_two_pow_sub_one_eq_mod b 52]
      exact hfr
    rw [h2] at h
    exact h
  unfold canW
  by_cases he : ex = 2047
  · by_cases hf : fr = 0
    · have hn : ¬ nanW b := by unfold nanW; omega
      have d1 : ((ex : Int) == 2047) = true := by rw [beq_iff_eq]; omega
      have d2 : ((fr : Int) == 0) = true := by rw [beq_iff_eq]; omega
      rw [if_neg hn]
      clear hn hq hex hfr he hf
      go_enter Tryz.func57, Tryz.ntmps57
      go_wp2
      go_ret
      exact ⟨rfl, rfl⟩
    · have hn : nanW b := by unfold nanW; omega
      have d1 : ((ex : Int) == 2047) = true := by rw [beq_iff_eq]; omega
      have d2 : ((fr : Int) == 0) = false := by rw [beq_eq_false_iff_ne]; omega
      rw [if_pos hn]
      clear hn hq hex hfr he
      go_enter Tryz.func57, Tryz.ntmps57
      go_wp2
      go_ret
      exact ⟨rfl, rfl⟩
  · have hn : ¬ nanW b := by unfold nanW; omega
    have d1 : ((ex : Int) == 2047) = false := by rw [beq_eq_false_iff_ne]; omega
    rw [if_neg hn]
    clear hn hq hex hfr
    go_enter Tryz.func57, Tryz.ntmps57
    go_wp2
    go_ret
    exact ⟨rfl, rfl⟩

theorem canW_lt {b : Nat} (hb : b < 18446744073709551616) : canW b < 18446744073709551616 := by
  unfold canW
  split
  · decide
  · exact hb

set_option maxRecDepth 100000 in
set_option maxHeartbeats 1000000 in
theorem same_flo (a b : Nat) (w : World) (ha : a < 18446744073709551616) (hb : b < 18446744073709551616) :
    Calls Tryz.prog 215 #[.float .f64 a, .float .f64 b] w fun e w' => e = .returned (.bool (canW a == canW b)) ∧ w = w' := by
  have B1 := Lib.hid fun W => bits_any a W ha
  have B2 := Lib.hid fun W => bits_any b W hb
  have hA := canW_lt ha
  have hB := canW_lt hb
  generalize canW a = A at *
  generalize canW b = C at *
  have hd : ((A : Int) == (C : Int)) = (A == C) := by
    rw [Bool.eq_iff_iff, beq_iff_eq, beq_iff_eq]; omega
  go_enter Tryz.func215, Tryz.ntmps215
  go_wp2_with (fail)
  refine (B1.out _).mono ?_
  rintro e w' ⟨rfl, rfl⟩
  go_wp2_with (fail)
  refine (B2.out _).mono ?_
  rintro e w' ⟨rfl, rfl⟩
  go_wp2
  go_ret
  exact ⟨rfl, rfl⟩
set_option maxRecDepth 100000 in
set_option maxHeartbeats 1000000 in
theorem rsame_flo (a b : Nat) (w : World) (ha : a < 18446744073709551616) (hb : b < 18446744073709551616) :
    Calls Tryz.prog 17 #[.float .f64 a, .float .f64 b] w fun e w' => e = .returned (.bool (canW a == canW b)) ∧ w = w' := by
  have B1 := Lib.hid fun W => rbits_any a W ha
  have B2 := Lib.hid fun W => rbits_any b W hb
  have hA := canW_lt ha
  have hB := canW_lt hb
  generalize canW a = A at *
  generalize canW b = C at *
  have hd : ((A : Int) == (C : Int)) = (A == C) := by
    rw [Bool.eq_iff_iff, beq_iff_eq, beq_iff_eq]; omega
  go_enter Tryz.func17, Tryz.ntmps17
  go_wp2_with (fail)
  refine (B1.out _).mono ?_
  rintro e w' ⟨rfl, rfl⟩
  go_wp2_with (fail)
  refine (B2.out _).mono ?_
  rintro e w' ⟨rfl, rfl⟩
  go_wp2
  go_ret
  exact ⟨rfl, rfl⟩

end LM
end Go.Proofs.YtcfhiihhfcnfbaaGreatDoor

namespace Go.Proofs.YtcfhiihhfcnfbaaGreatDoor
open Go Go.Shelf Go.RowKit Go.Sort Go.Lib
namespace LM
set_option linter.unusedVariables false

abbrev zeros32 : Array Value := #[Value.int .u8 0, Value.int .u8 0, Value.int .u8 0, Value.int .u8 0, Value.int .u8 0, Value.int .u8 0, Value.int .u8 0, Value.int .u8 0, Value.int .u8 0, Value.int .u8 0, Value.int .u8 0, Value.int .u8 0, Value.int .u8 0, Value.int .u8 0, Value.int .u8 0, Value.int .u8 0, Value.int .u8 0, Value.int .u8 0, Value.int .u8 0, Value.int .u8 0, Value.int .u8 0, Value.int .u8 0, Value.int .u8 0, Value.int .u8 0, Value.int .u8 0, Value.int .u8 0, Value.int .u8 0, Value.int .u8 0, Value.int .u8 0, Value.int .u8 0, Value.int .u8 0, Value.int .u8 0]
theorem zeros32_at (i : Nat) (h : i < 32) : zeros32[i]? = some (.int .u8 0) := by
  have e : zeros32 = Array.replicate 32 (.int .u8 0) := rfl
  rw [e, Array.getElem?_replicate, if_pos h]
theorem holds_zero32 (w : World) (T : TypeId) (nd : Nat) (hs : nd ≤ 32) : Holds enc8 (w.alloc (.cells zeros32 T)) w.heap.size 0 (Array.replicate nd (0 : UInt8)) := fun j hj => by
  have hj' : j < nd := by simpa using hj
  refine ⟨?_, World.frozen?_alloc_new _ _ _ _⟩
  rw [World.cell?_alloc_new, Nat.zero_add, zeros32_at _ (by omega), getElem!_pos _ j hj]
  simp

/-- how a number is written: which sign, which digits, where the point stands -/
def fmtX (c : Nat) (neg : Bool) (l : List UInt8) (dp : Int) : List UInt8 := if c = 101 then fmtE neg l dp else fmtF neg l dp

theorem OB.belowW {B : Nat} {W0 : World} {g : Nat} {v : Value} {bs : List UInt8} {w w' : World} (h : OB B W0 g [] v bs w) (hb : Below w.heap.size w w') : OB B W0 g [] v bs w' := by
  obtain ⟨h1, h2, h3, h4⟩ := h
  refine ⟨h1.kept (only_of_below hb none) ?_, h2.trans (hb.mono h3), Nat.le_trans h3 hb.size, .inl rfl⟩
  cases v.ownBlock with
  | none => exact .inl rfl
  | some k => exact .inr (by simp)
theorem OB.digits {B : Nat} {W0 : World} {g g0 : Nat} {ds : List UInt8} {v : Value} {bs : List UInt8} {w w' : World} (h : OB B W0 g0 [] v bs w) (hg : w.grownBy w' (some g)) (hv : v.ownBlock ≠ some g) (hB : B ≤ g) (hl : g < w.heap.size) (hd : BufHas w' g ds) : OB B W0 g ds v bs w' := by
  obtain ⟨h1, h2, h3, h4⟩ := h
  exact ⟨h1.kept hg (.inr hv), h2.grown hg h3 (fun k e => by injection e with e; omega), Nat.le_trans h3 hg.size, .inr ⟨Nat.lt_of_lt_of_le hl hg.size, hv, hd⟩⟩
theorem Holds.belowW {w w' : World} {g : Nat} {d : Array UInt8} (h : Holds enc8 w g 0 d) (hb : Below w.heap.size w w') (hg : g < w.heap.size) : Holds enc8 w' g 0 d := fun j hj => by
  obtain ⟨a, b⟩ := h j hj
  exact ⟨(World.cell?_of_block (a := ⟨g, 0 + j, none⟩) (hb.block g hg)).trans a, (World.frozen?_of_block (a := ⟨g, 0 + j, none⟩) (hb.block g hg)).trans b⟩

set_option maxRecDepth 100000 in
set_option maxHeartbeats 8000000 in
theorem ftoaE_any (b : Nat) (neg : Bool) (ex fr mant len s m : Nat) (e p : Int) (d B : Nat) (W0 : World) (v : Value) (w : World) (hb : b < 18446744073709551616) (hob : OB B W0 0 [] v [] w)
    (hneg : (decide (9223372036854775808 ≤ b)) = neg) (hex : b / 4503599627370496 % 2048 = ex) (hfr : b % 4503599627370496 = fr) (hfin : ex < 2047) (h0 : ex ≠ 0)
    (hmant : mant = fr + 4503599627370496) (hlen : Lib.bitLen mant = len) (hs : len + s = 64) (hm : mant * 2 ^ s = m) (hml : m < 18446744073709551616) (he : e = (ex : Int) - 1023 - s - 52)
    (hS : ∀ W, w.heap.size < W.heap.size → Below w.heap.size w W → Calls Tryz.prog 259 #[.int .u64 (m : Int), .int .i64 e] W fun r w' => r = .returned (.tuple #[.int .u64 (d : Int), .int .i64 p]) ∧ Below W.heap.size W w')
    (htab : Lib.TabIs Tryz.prog w "internal/strconv.uint64pow10" .u64 Lib.pow10Tab) (hd0 : 1 ≤ d) (hd1 : d < 18446744073709551616) (hp : -600 ≤ p ∧ p ≤ 600) (hnz : 1 ≤ nzd (decDigits d)) (hn20 : nDigits d ≤ 20) :
    Calls Tryz.prog 182 #[v, .float .f64 b, .int .u8 101, .int .i64 (-1)] w fun r w' =>
      ∃ v' g, r = .returned v' ∧ OB B W0 g (decDigits d) v' (fmtE neg ((decDigits d).take (nzd (decDigits d))) ((nDigits d : Int) + p)) w' := by
  obtain ⟨bq, hbq⟩ : ∃ q, b / 4503599627370496 = q := ⟨_, rfl⟩
  have hbqi : (b : Int) / 4503599627370496 = (bq : Int) := by omega
  have hbql : bq < 4096 := by omega
  have hex2 : bits .and .i64 (bq : Int) 2047 = (ex : Int) := by
    have h := i64_and_nat bq 2047 (by omega) (by decide)
    have h2 : bq &&& 2047 = ex := by rw [nat_mask11, ← hbq, hex]
    rw [h2] at h
    exact h
  have hfr2 : bits .and .u64 (b : Int) 4503599627370495 = (fr : Int) := by
    have h := u64_and_nat b 4503599627370495 hb (by decide)
    have h2 : b &&& 4503599627370495 = fr := by
      rw [show b &&& 4503599627370495 = b % 2 ^ 52 from Nat.and_two_pow_sub_one_eq_mod b 52]
      exact hfr
    rw [h2] at h
    exact h
  have hneg2 : ((b : Int) / 9223372036854775808 != 0) = neg := by
    rw [← hneg]
    by_cases h : 9223372036854775808 ≤ b
    · rw [decide_eq_true h, bne_iff_ne]; omega
    · rw [decide_eq_false h, bne_eq_false_iff_eq]; omega
  have hfrl : fr < 4503599627370496 := by omega
  have hml0 : mant < 9007199254740992 := by omega
  have hm0 : 0 < mant := by omega
  have hor : bits .or .u64 (fr : Int) 4503599627370496 = (mant : Int) := by
    have h := u64_or_nat fr 4503599627370496 (by omega) (by decide)
    have h2 : fr ||| 4503599627370496 = mant := by
      rw [Nat.or_comm, nat_join 52 4503599627370496 fr (by decide) hfrl, Nat.add_comm, hmant]
    rw [h2] at h
    exact h
  have RB := run_sbits b
  have hL := fun W => Tryz.bits_Len64 (mant : Int) W (by omega) (by omega)
  rw [show ((mant : Int)).toNat = mant from Int.toNat_natCast mant, hlen] at hL
  have HLN := Lib.hid hL
  have hsi : (64 : Int) - (len : Int) = (s : Int) := by omega
  have hs64 : s ≤ 64 := by omega
  have hmin : min s 64 = s := Nat.min_eq_left hs64
  have hmi : (mant : Int) * 2 ^ s = (m : Int) := by rw [← hm]; push_cast; rfl
  obtain ⟨e0, he0⟩ : ∃ e0 : Int, (ex : Int) - 1023 = e0 := ⟨_, rfl⟩
  have he1 : (ex : Int) + -1023 = e0 := by omega
  have hee : e0 - (s : Int) - 52 = e := by omega
  have heb : -3000 ≤ e0 ∧ e0 ≤ 3000 := by omega
  have hown : ∀ k, v.ownBlock = some k → k < w.heap.size := fun k hk => (hob.1.lt k hk).2
  have hBw : B ≤ w.heap.size := hob.2.2.1
  have hinf : ((ex : Int) == 2047) = false := by rw [beq_eq_false_iff_ne]; omega
  have hexz : ((ex : Int) == 0) = false := by rw [beq_eq_false_iff_ne]; omega
  have hmz : ((mant : Int) == 0) = false := by rw [beq_eq_false_iff_ne]; omega
  obtain ⟨n, hnn⟩ : ∃ n, nDigits d = n := ⟨_, rfl⟩
  obtain ⟨ds, hds⟩ : ∃ ds, decDigits d = ds := ⟨_, rfl⟩
  obtain ⟨nd, hnd⟩ : ∃ nd, nzd ds = nd := ⟨_, rfl⟩
  have hdl : ds.length = n := by rw [← hds, ← hnn]; exact decDigits_length d
  have hndl : nd ≤ ds.length := by rw [← hnd]; exact nzd_le ds
  have hn1 : n ≤ 20 := by omega
  rw [hds, hnd] at hnz
  have HNM : Hid (∀ W, Lib.TabIs Tryz.prog W "internal/strconv.uint64pow10" .u64 Lib.pow10Tab → Calls Tryz.prog 253 #[.int .u64 (d : Int)] W fun e w' => e = .returned (.int .i64 (n : Int)) ∧ w' = W) := Lib.hid fun W h => by
    have h2 := Tryz.internal_strconv_numDigits d hd0 hd1 W h
    rw [hnn] at h2
    exact h2
  have HSD : Hid (∀ g W, Holds enc8 W g 0 (Array.replicate n 0) → Calls Tryz.prog 252 #[.slice (some ⟨g, 0, none⟩) 32 32, .int .u64 (d : Int), .int .i64 p, .int .i64 (n : Int)] W fun e w' =>
      e = .returned (.tuple #[.int .i64 ((n : Int) + p), .int .i64 (nd : Int)]) ∧ BufHas w' g ds ∧ W.grownBy w' (some g)) := Lib.hid fun g W h => by
    have h2 := setDigits_any g d p W hd1 (by rw [hnn]; exact h) (by omega) (by omega)
    rw [hnn, hds, hnd] at h2
    exact h2
  rw [hds, hnn, hnd]
  have HSS := Lib.hid hS
  have HTB := Lib.hid htab
  have HOB := Lib.hid hob
  have HOWN := Lib.hid hown
  have HND := Lib.hid hnd
  have HDL := Lib.hid hdl
  clear hneg hex hfr hmant hlen hs hm he he0 hS htab hob hbq hL hown hnn hds hnd hdl hn20
  go_enter Tryz.func182, Tryz.ntmps182
  go_wp2_with (fail)
  go_quiet (fail)
  go_wp2_with (fail)
  have hH1 := fun k (hk : k ≤ 32) => holds_zero32 (w.drewN nq) 246 k hk
  have hO1 := (HOB.out.drewN nq).alloc (.cells zeros32 246)
  have hB1 : Below w.heap.size w ((w.drewN nq).alloc (.cells zeros32 246)) := (below_drewN (Below.refl _ w) nq).alloc (Nat.le_refl _) _
  have hZ1 : ((w.drewN nq).alloc (.cells zeros32 246)).heap.size = w.heap.size + 1 := by simp
  change Calls Tryz.prog _ _ ((w.drewN nq).alloc (.cells zeros32 246)) _
  generalize (w.drewN nq).alloc (.cells zeros32 246) = W1 at hH1 hO1 hB1 hZ1 ⊢
  have hT1 := tab_below HTB.out hB1
  have HH1 : Hid (Holds enc8 W1 w.heap.size 0 (Array.replicate n 0)) := Lib.hid (hH1 n (by omega))
  have HO1 := Lib.hid hO1
  have HB1 := Lib.hid hB1
  have HZ1 := Lib.hid hZ1
  have HT1 := Lib.hid hT1
  clear hH1 hO1 hB1 hZ1 hT1
  refine (HLN.out W1).mono ?_
  rintro r w' ⟨rfl, rfl⟩
  go_wp2_with (fail)
  refine (HSS.out _ (by rw [HZ1.out]; omega) HB1.out).mono ?_
  rintro r w2 ⟨rfl, hb2⟩
  have HH2 := Lib.hid (Holds.belowW HH1.out hb2 (by rw [HZ1.out]; omega))
  have HO2 := Lib.hid (HO1.out.belowW hb2)
  have hz2 : w.heap.size < w2.heap.size := by have h1 := HZ1.out; have h2 := hb2.size; omega
  have HZ2 := Lib.hid hz2
  have HT2 := Lib.hid (tab_below HT1.out hb2)
  clear hb2 hz2
  go_wp2_with (fail)
  have HNM2 : Hid (∀ W, W.heap = w2.heap → Calls Tryz.prog 253 #[.int .u64 (d : Int)] W fun e w' => e = .returned (.int .i64 (n : Int)) ∧ w' = W) := Lib.hid fun W h => HNM.out W (by
    have h2 := HT2.out
    unfold Lib.TabIs World.var? at h2 ⊢
    rw [h]
    exact h2)
  have HSD2 : Hid (∀ W, W.heap = w2.heap → Calls Tryz.prog 252 #[.slice (some ⟨w.heap.size, 0, none⟩) 32 32, .int .u64 (d : Int), .int .i64 p, .int .i64 (n : Int)] W fun e w' =>
      e = .returned (.tuple #[.int .i64 ((n : Int) + p), .int .i64 (nd : Int)]) ∧ BufHas w' w.heap.size ds ∧ W.grownBy w' (some w.heap.size)) := Lib.hid fun W h => HSD.out w.heap.size W fun j hj => by
    obtain ⟨a, b⟩ := HH2.out j hj
    refine ⟨?_, ?_⟩
    · rw [← a]; simp [World.cell?, h]
    · rw [← b]; simp [World.frozen?, h]
  go_cut [22, 23] (fun x y wx => x = .int .i64 ((n : Int) + p) ∧ y = .int .i64 (nd : Int) ∧ OB B W0 w.heap.size ds v [] wx)
  case first =>
    go_region_with (first
      | (go_at_call 253; refine (HNM2.out _ (by rfl)).mono ?_; rintro r w' ⟨rfl, rfl⟩)
      | (go_at_call 252; refine (HSD2.out _ (by rfl)).mono ?_; rintro r w3 ⟨rfl, hbf, hg⟩))
    all_goals
      go_wp2_with (fail)
      go_meet
      case rel =>
        refine ⟨rfl, rfl, ?_⟩
        have hv : v.ownBlock ≠ some w.heap.size := fun e => Nat.lt_irrefl _ (HOWN.out _ e)
        first
          | exact HO2.out.digits hg hv hBw HZ2.out hbf
          | exact (HO2.out.drewN 1).digits hg hv hBw HZ2.out hbf
          | exact (HO2.out.drewN 2).digits hg hv hBw HZ2.out hbf
          | exact (HO2.out.drewN 3).digits hg hv hBw HZ2.out hbf
          | exact (HO2.out.drewN 4).digits hg hv hBw HZ2.out hbf
  case rest =>
    obtain ⟨rfl, rfl, hob3⟩ := hcut
    have HO3 := Lib.hid hob3
    have hdl20 : ds.length ≤ 32 := by rw [HDL.out]; omega
    have hq : (max ((nd : Int) - 1) 0) = (nd : Int) - 1 := by omega
    clear hob3 HO2 HH2 HO1 HH1
    go_wp2_with (fail)
    refine (fmtE_any B W0 w.heap.size ds v [] wc neg ((n : Int) + p) nd HO3.out (by decide) hnz hndl hdl20 (by omega)).mono ?_
    rintro r w4 ⟨v4, rfl, hob4⟩
    go_wp2
    go_ret
    exact ⟨_, _, rfl, hob4⟩

end LM
end Go.Proofs.YtcfhiihhfcnfbaaGreatDoor

namespace Go.Proofs.YtcfhiihhfcnfbaaGreatDoor
open Go Go.Shelf Go.RowKit Go.Sort Go.Lib
namespace LM
set_option linter.unusedVariables false

set_option maxRecDepth 100000 in
set_option maxHeartbeats 8000000 in
theorem ftoaF_any (b : Nat) (neg : Bool) (ex fr mant len s m : Nat) (e p : Int) (d B : Nat) (W0 : World) (v : Value) (w : World) (hb : b < 18446744073709551616) (hob : OB B W0 0 [] v [] w)
    (hneg : (decide (9223372036854775808 ≤ b)) = neg) (hex : b / 4503599627370496 % 2048 = ex) (hfr : b % 4503599627370496 = fr) (hfin : ex < 2047) (h0 : ex ≠ 0)
    (hmant : mant = fr + 4503599627370496) (hlen : Lib.bitLen mant = len) (hs : len + s = 64) (hm : mant * 2 ^ s = m) (hml : m < 18446744073709551616) (he : e = (ex : Int) - 1023 - s - 52)
    (hS : ∀ W, w.heap.size < W.heap.size → Below w.heap.size w W → Calls Tryz.prog 259 #[.int .u64 (m : Int), .int .i64 e] W fun r w' => r = .returned (.tuple #[.int .u64 (d : Int), .int .i64 p]) ∧ Below W.heap.size W w')
    (htab : Lib.TabIs Tryz.prog w "internal/strconv.uint64pow10" .u64 Lib.pow10Tab) (hd0 : 1 ≤ d) (hd1 : d < 18446744073709551616) (hp : -600 ≤ p ∧ p ≤ 600) (hnz : 1 ≤ nzd (decDigits d)) (hn20 : nDigits d ≤ 20) :
    Calls Tryz.prog 182 #[v, .float .f64 b, .int .u8 102, .int .i64 (-1)] w fun r w' =>
      ∃ v' g, r = .returned v' ∧ OB B W0 g (decDigits d) v' (fmtF neg ((decDigits d).take (nzd (decDigits d))) ((nDigits d : Int) + p)) w' := by
  obtain ⟨bq, hbq⟩ : ∃ q, b / 4503599627370496 = q := ⟨_, rfl⟩
  have hbqi : (b : Int) / 4503599627370496 = (bq : Int) := by omega
  have hbql : bq < 4096 := by omega
  have hex2 : bits .and .i64 (bq : Int) 2047 = (ex : Int) := by
    have h := i64_and_nat bq 2047 (by omega) (by decide)
    have h2 : bq &&& 2047 = ex := by rw [nat_mask11, ← hbq, hex]
    rw [h2] at h
    exact h
  have hfr2 : bits .and .u64 (b : Int) 4503599627370495 = (fr : Int) := by
    have h := u64_and_nat b 4503599627370495 hb (by decide)
    have h2 : b &&& 4503599627370495 = fr := by
      rw [show b &&& 4503599627370495 = b % 2 ^ 52 from Nat.and_two_pow_sub_one_eq_mod b 52]
      exact hfr
    rw [h2] at h
    exact h
  have hneg2 : ((b : Int) / 9223372036854775808 != 0) = neg := by
    rw [← hneg]
    by_cases h : 9223372036854775808 ≤ b
    · rw [decide_eq_true h, bne_iff_ne]; omega
    · rw [decide_eq_false h, bne_eq_false_iff_eq]; omega
  have hfrl : fr < 4503599627370496 := by omega
  have hml0 : mant < 9007199254740992 := by omega
  have hm0 : 0 < mant := by omega
  have hor : bits .or .u64 (fr : Int) 4503599627370496 = (mant : Int) := by
    have h := u64_or_nat fr 4503599627370496 (by omega) (by decide)
    have h2 : fr ||| 4503599627370496 = mant := by
      rw [Nat.or_comm, nat_join 52 4503599627370496 fr (by decide) hfrl, Nat.add_comm, hmant]
    rw [h2] at h
    exact h
  have RB := run_sbits b
  have hL := fun W => Tryz.bits_Len64 (mant : Int) W (by omega) (by omega)
  rw [show ((mant : Int)).toNat = mant from Int.toNat_natCast mant, hlen] at hL
  have HLN := Lib.hid hL
  have hsi : (64 : Int) - (len : Int) = (s : Int) := by omega
  have hs64 : s ≤ 64 := by omega
  have hmin : min s 64 = s := Nat.min_eq_left hs64
  have hmi : (mant : Int) * 2 ^ s = (m : Int) := by rw [← hm]; push_cast; rfl
  obtain ⟨e0, he0⟩ : ∃ e0 : Int, (ex : Int) - 1023 = e0 := ⟨_, rfl⟩
  have he1 : (ex : Int) + -1023 = e0 := by omega
  have hee : e0 - (s : Int) - 52 = e := by omega
  have heb : -3000 ≤ e0 ∧ e0 ≤ 3000 := by omega
  have hown : ∀ k, v.ownBlock = some k → k < w.heap.size := fun k hk => (hob.1.lt k hk).2
  have hBw : B ≤ w.heap.size := hob.2.2.1
  have hinf : ((ex : Int) == 2047) = false := by rw [beq_eq_false_iff_ne]; omega
  have hexz : ((ex : Int) == 0) = false := by rw [beq_eq_false_iff_ne]; omega
  have hmz : ((mant : Int) == 0) = false := by rw [beq_eq_false_iff_ne]; omega
  obtain ⟨n, hnn⟩ : ∃ n, nDigits d = n := ⟨_, rfl⟩
  obtain ⟨ds, hds⟩ : ∃ ds, decDigits d = ds := ⟨_, rfl⟩
  obtain ⟨nd, hnd⟩ : ∃ nd, nzd ds = nd := ⟨_, rfl⟩
  have hdl : ds.length = n := by rw [← hds, ← hnn]; exact decDigits_length d
  have hndl : nd ≤ ds.length := by rw [← hnd]; exact nzd_le ds
  have hn1 : n ≤ 20 := by omega
  rw [hds, hnd] at hnz
  have HNM : Hid (∀ W, Lib.TabIs Tryz.prog W "internal/strconv.uint64pow10" .u64 Lib.pow10Tab → Calls Tryz.prog 253 #[.int .u64 (d : Int)] W fun e w' => e = .returned (.int .i64 (n : Int)) ∧ w' = W) := Lib.hid fun W h => by
    have h2 := Tryz.internal_strconv_numDigits d hd0 hd1 W h
    rw [hnn] at h2
    exact h2
  have HSD : Hid (∀ g W, Holds enc8 W g 0 (Array.replicate n 0) → Calls Tryz.prog 252 #[.slice (some ⟨g, 0, none⟩) 32 32, .int .u64 (d : Int), .int .i64 p, .int .i64 (n : Int)] W fun e w' =>
      e = .returned (.tuple #[.int .i64 ((n : Int) + p), .int .i64 (nd : Int)]) ∧ BufHas w' g ds ∧ W.grownBy w' (some g)) := Lib.hid fun g W h => by
    have h2 := setDigits_any g d p W hd1 (by rw [hnn]; exact h) (by omega) (by omega)
    rw [hnn, hds, hnd] at h2
    exact h2
  rw [hds, hnn, hnd]
  have HSS := Lib.hid hS
  have HTB := Lib.hid htab
  have HOB := Lib.hid hob
  have HOWN := Lib.hid hown
  have HND := Lib.hid hnd
  have HDL := Lib.hid hdl
  clear hneg hex hfr hmant hlen hs hm he he0 hS htab hob hbq hL hown hnn hds hnd hdl hn20
  go_enter Tryz.func182, Tryz.ntmps182
  go_wp2_with (fail)
  go_quiet (fail)
  go_wp2_with (fail)
  have hH1 := fun k (hk : k ≤ 32) => holds_zero32 (w.drewN nq) 246 k hk
  have hO1 := (HOB.out.drewN nq).alloc (.cells zeros32 246)
  have hB1 : Below w.heap.size w ((w.drewN nq).alloc (.cells zeros32 246)) := (below_drewN (Below.refl _ w) nq).alloc (Nat.le_refl _) _
  have hZ1 : ((w.drewN nq).alloc (.cells zeros32 246)).heap.size = w.heap.size + 1 := by simp
  change Calls Tryz.prog _ _ ((w.drewN nq).alloc (.cells zeros32 246)) _
  generalize (w.drewN nq).alloc (.cells zeros32 246) = W1 at hH1 hO1 hB1 hZ1 ⊢
  have hT1 := tab_below HTB.out hB1
  have HH1 : Hid (Holds enc8 W1 w.heap.size 0 (Array.replicate n 0)) := Lib.hid (hH1 n (by omega))
  have HO1 := Lib.hid hO1
  have HB1 := Lib.hid hB1
  have HZ1 := Lib.hid hZ1
  have HT1 := Lib.hid hT1
  clear hH1 hO1 hB1 hZ1 hT1
  refine (HLN.out W1).mono ?_
  rintro r w' ⟨rfl, rfl⟩
  go_wp2_with (fail)
  refine (HSS.out _ (by rw [HZ1.out]; omega) HB1.out).mono ?_
  rintro r w2 ⟨rfl, hb2⟩
  have HH2 := Lib.hid (Holds.belowW HH1.out hb2 (by rw [HZ1.out]; omega))
  have HO2 := Lib.hid (HO1.out.belowW hb2)
  have hz2 : w.heap.size < w2.heap.size := by have h1 := HZ1.out; have h2 := hb2.size; omega
  have HZ2 := Lib.hid hz2
  have HT2 := Lib.hid (tab_below HT1.out hb2)
  clear hb2 hz2
  go_wp2_with (fail)
  have HNM2 : Hid (∀ W, W.heap = w2.heap → Calls Tryz.prog 253 #[.int .u64 (d : Int)] W fun e w' => e = .returned (.int .i64 (n : Int)) ∧ w' = W) := Lib.hid fun W h => HNM.out W (by
    have h2 := HT2.out
    unfold Lib.TabIs World.var? at h2 ⊢
    rw [h]
    exact h2)
  have HSD2 : Hid (∀ W, W.heap = w2.heap → Calls Tryz.prog 252 #[.slice (some ⟨w.heap.size, 0, none⟩) 32 32, .int .u64 (d : Int), .int .i64 p, .int .i64 (n : Int)] W fun e w' =>
      e = .returned (.tuple #[.int .i64 ((n : Int) + p), .int .i64 (nd : Int)]) ∧ BufHas w' w.heap.size ds ∧ W.grownBy w' (some w.heap.size)) := Lib.hid fun W h => HSD.out w.heap.size W fun j hj => by
    obtain ⟨a, b⟩ := HH2.out j hj
    refine ⟨?_, ?_⟩
    · rw [← a]; simp [World.cell?, h]
    · rw [← b]; simp [World.frozen?, h]
  go_cut [22, 23] (fun x y wx => x = .int .i64 ((n : Int) + p) ∧ y = .int .i64 (nd : Int) ∧ OB B W0 w.heap.size ds v [] wx)
  case first =>
    go_region_with (first
      | (go_at_call 253; refine (HNM2.out _ (by rfl)).mono ?_; rintro r w' ⟨rfl, rfl⟩)
      | (go_at_call 252; refine (HSD2.out _ (by rfl)).mono ?_; rintro r w3 ⟨rfl, hbf, hg⟩))
    all_goals
      go_wp2_with (fail)
      go_meet
      case rel =>
        refine ⟨rfl, rfl, ?_⟩
        have hv : v.ownBlock ≠ some w.heap.size := fun e => Nat.lt_irrefl _ (HOWN.out _ e)
        first
          | exact HO2.out.digits hg hv hBw HZ2.out hbf
          | exact (HO2.out.drewN 1).digits hg hv hBw HZ2.out hbf
          | exact (HO2.out.drewN 2).digits hg hv hBw HZ2.out hbf
          | exact (HO2.out.drewN 3).digits hg hv hBw HZ2.out hbf
          | exact (HO2.out.drewN 4).digits hg hv hBw HZ2.out hbf
  case rest =>
    obtain ⟨rfl, rfl, hob3⟩ := hcut
    have HO3 := Lib.hid hob3
    have hdl20 : ds.length ≤ 32 := by rw [HDL.out]; omega
    obtain ⟨pr, hpr⟩ : ∃ pr, max ((nd : Int) - ((n : Int) + p)) 0 = pr := ⟨_, rfl⟩
    have FF := Lib.hid (fmtF_any B W0 w.heap.size ds v [] wc neg ((n : Int) + p) pr nd hob3 (by decide) hndl hdl20 (by omega) hpr.symm)
    clear hob3 HO2 HH2 HO1 HH1
    go_wp2_with (fail)
    refine FF.out.mono ?_
    rintro r w4 ⟨v4, rfl, hob4⟩
    go_wp2
    go_ret
    exact ⟨_, _, rfl, hob4⟩

end LM
end Go.Proofs.YtcfhiihhfcnfbaaGreatDoor

namespace Go.Proofs.YtcfhiihhfcnfbaaGreatDoor
open Go Go.Shelf Go.RowKit Go.Sort Go.Lib
namespace LM
set_option linter.unusedVariables false

/-- the library's powers of ten as floating numbers -/
def f64Rows : List Nat := [4607182418800017408, 4621819117588971520, 4636737291354636288, 4652007308841189376, 4666723172467343360, 4681608360884174848, 4696837146684686336, 4711630319722168320, 4726483295884279808, 4741671816366391296, 4756540486875873280, 4771362005757984768, 4786511204640096256, 4801453603149578240, 4816244402031689728, 4831355200913801216, 4846369599423283200, 4861130398305394688, 4876203697187506176, 4891288408196988160, 4906019910204099648, 4921056587992461136, 4936209963552724370]
/-- what the package variables hold -/
structure FV (w : World) : Prop where
  pow : PTab w
  tab : Lib.TabIs Tryz.prog w "internal/strconv.uint64pow10" .u64 Lib.pow10Tab
  info : w.cell? ⟨9, 0, none⟩ = some (.int .u64 52)
  opt : w.cell? ⟨6, 0, none⟩ = some (.bool true)
  f64 : ∃ b n c, w.cell? ⟨13, 0, none⟩ = some (.slice (some ⟨b, n, none⟩) 23 c) ∧ b < w.heap.size ∧ ∀ j x, f64Rows[j]? = some x → w.cell? ⟨b, n + j, none⟩ = some (.float .f64 x)
  size : 9 < w.heap.size ∧ 6 < w.heap.size ∧ 13 < w.heap.size ∧ 14 < w.heap.size

theorem FV.below {w w' : World} (h : FV w) (hb : Below w.heap.size w w') : FV w' := by
  have hc : ∀ g i v, g < w.heap.size → w.cell? ⟨g, i, none⟩ = some v → w'.cell? ⟨g, i, none⟩ = some v := fun g i v hg hv =>
    (World.cell?_of_block (a := ⟨g, i, none⟩) (hb.block g hg)).trans hv
  obtain ⟨b, n, c, h1, h2, h3⟩ := h.f64
  refine ⟨fun i x hx => ⟨hc _ _ _ h.size.2.2.2 (h.pow i x hx).1, hc _ _ _ h.size.2.2.2 (h.pow i x hx).2⟩, tab_below h.tab hb, hc _ _ _ h.size.1 h.info, hc _ _ _ h.size.2.1 h.opt,
    ⟨b, n, c, hc _ _ _ h.size.2.2.1 h1, Nat.lt_of_lt_of_le h2 hb.size, fun j x hx => hc _ _ _ h2 (h3 j x hx)⟩, ?_⟩
  have := hb.size
  obtain ⟨a1, a2, a3, a4⟩ := h.size
  exact ⟨by omega, by omega, by omega, by omega⟩
theorem FV.drewN {w : World} (h : FV w) (n : Nat) : FV (w.drewN n) := h.below (below_drewN (Below.refl _ w) n)

set_option maxRecDepth 100000 in
set_option maxHeartbeats 2000000 in
theorem atof_15 (s : ByteArray) (w : World) (h : s.data.toList = [45, 49, 46, 53, 101, 50]) (hv : FV w) :
    Calls Tryz.prog 244 #[.string s] w fun e w' => e = .returned (.tuple #[.float .f64 13862853709232340992, .int .i64 6, .nilIface]) ∧ ∃ k, w' = w.drewN k := by
  have S1 := Lib.hid fun W => special_15 s W h
  have R1 := Lib.hid fun W => read_15 s W h
  have B1 := Lib.hid (bool2_u64 true)
  have o1 : ∀ k, (w.drewN k).cell? ⟨6, 0, none⟩ = some (.bool true) := fun k => hv.opt
  have EX : Hid (∀ k, Calls Tryz.prog 307 #[.int .u64 15, .int .i64 1, .bool true] (w.drewN k) fun e w' => e = .returned (.tuple #[.float .f64 13862853709232340992, .bool true]) ∧ ∃ k2, w' = (w.drewN k).drewN k2) := Lib.hid fun k => by
    obtain ⟨b, n, c, h1, h2, h3⟩ := hv.f64
    exact exact_15 (w.drewN k) hv.info b n c h1 (h3 1 _ rfl)
  clear h hv
  go_enter Tryz.func244, Tryz.ntmps244
  go_wp2_with (fail)
  refine (S1.out _).mono ?_
  rintro e w' ⟨rfl, rfl⟩
  go_wp2_with (fail)
  refine (R1.out _).mono ?_
  rintro e w1 ⟨rfl, k, rfl⟩
  have o2 := o1 k
  go_wp2_with (fail)
  refine (B1.out _).mono ?_
  rintro e w1 ⟨rfl, rfl⟩
  go_wp2_with (fail)
  refine (EX.out k).mono ?_
  rintro e w1 ⟨rfl, k2, rfl⟩
  go_wp2_with (fail)
  go_returns
  exact ⟨rfl, _, rfl⟩

set_option maxRecDepth 100000 in
set_option maxHeartbeats 2000000 in
theorem parsePrefix_15 (s : ByteArray) (w : World) (h : s.data.toList = [45, 49, 46, 53, 101, 50]) (hv : FV w) :
    Calls Tryz.prog 175 #[.string s, .int .i64 64] w fun e w' => e = .returned (.tuple #[.float .f64 13862853709232340992, .int .i64 6, .nilIface]) ∧ ∃ k, w' = w.drewN k := by
  have HA := Lib.hid (atof_15 s w h hv)
  clear h hv
  go_enter Tryz.func175, Tryz.ntmps175
  go_wp2_with (fail)
  refine HA.out.mono ?_
  rintro e w' ⟨rfl, k, rfl⟩
  go_wp2
  go_returns
  exact ⟨rfl, k, rfl⟩
set_option maxRecDepth 100000 in
set_option maxHeartbeats 2000000 in
theorem iparse_15 (s : ByteArray) (w : World) (h : s.data.toList = [45, 49, 46, 53, 101, 50]) (hv : FV w) :
    Calls Tryz.prog 101 #[.string s, .int .i64 64] w fun e w' => e = .returned (.tuple #[.float .f64 13862853709232340992, .nilIface]) ∧ ∃ k, w' = w.drewN k := by
  have HA := Lib.hid (parsePrefix_15 s w h hv)
  have hz : s.size = 6 := by rw [Lib.size_eq, h]; rfl
  clear h hv
  go_enter Tryz.func101, Tryz.ntmps101
  go_wp2_with (fail)
  refine HA.out.mono ?_
  rintro e w' ⟨rfl, k, rfl⟩
  go_wp2
  go_returns
  exact ⟨rfl, k, rfl⟩
set_option maxRecDepth 100000 in
set_option maxHeartbeats 2000000 in
theorem parse_15 (s : ByteArray) (w : World) (h : s.data.toList = [45, 49, 46, 53, 101, 50]) (hv : FV w) :
    Calls Tryz.prog 48 #[.string s, .int .i64 64] w fun e w' => e = .returned (.tuple #[.float .f64 13862853709232340992, .nilIface]) ∧ ∃ k, w' = w.drewN k := by
  have HA := Lib.hid (iparse_15 s w h hv)
  clear h hv
  go_enter Tryz.func48, Tryz.ntmps48
  go_wp2_with (fail)
  refine HA.out.mono ?_
  rintro e w' ⟨rfl, k, rfl⟩
  go_wp2
  go_returns
  exact ⟨rfl, k, rfl⟩

end LM
end Go.Proofs.YtcfhiihhfcnfbaaGreatDoor
