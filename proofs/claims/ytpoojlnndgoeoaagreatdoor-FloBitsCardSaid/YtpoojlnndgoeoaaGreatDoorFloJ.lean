/- Walks: the library's FormatFloat; a text with a point. -/
import Derived.Test.YtpoojlnndgoeoaaGreatDoorProg
import Derived.Test.YtpoojlnndgoeoaaGreatDoorFloIeee
import Derived.WalkKit
import Derived.WalkLawsBesides
import Derived.Laws.Externs
import Derived.KernelRfl
import Derived.Handy
import Derived.Test.YtpoojlnndgoeoaaGreatDoorFloE
import Derived.Test.YtpoojlnndgoeoaaGreatDoorFloP
import Derived.Test.YtpoojlnndgoeoaaGreatDoorLimbR
import Derived.Laws.MakeOwn
import Derived.Lib.IndexLaws
namespace Go.Proofs.YtpoojlnndgoeoaaGreatDoor
open Go Go.RowKit
namespace LM
set_option linter.unusedVariables false

theorem run_sbits (b : Nat) (W : World) : (callFunc 137 #[.float .f64 b]).run Tryz.prog W = .ok (.value (.int .u64 (b : Int))) W := by
  rw [run_callFunc_extern Tryz.func137 (by kernel_rfl) (by kernel_rfl) (e := Extern.MathFloatBits.float64bits) (by kernel_rfl) (by kernel_rfl)]
  rfl
theorem run_mbits (b : Nat) (W : World) : (callFunc 39 #[.float .f64 b]).run Tryz.prog W = .ok (.value (.int .u64 (b : Int))) W := by
  rw [run_callFunc_extern Tryz.func39 (by kernel_rfl) (by kernel_rfl) (e := Extern.MathFloatBits.float64bits) (by kernel_rfl) (by kernel_rfl)]
  rfl
theorem run_sfrom (b : Nat) (W : World) : (callFunc 173 #[.int .u64 (b : Int)]).run Tryz.prog W = .ok (.value (.float .f64 b)) W := by
  rw [run_callFunc_extern Tryz.func173 (by kernel_rfl) (by kernel_rfl) (e := Extern.MathFloatBits.float64frombits) (by kernel_rfl) (by kernel_rfl)]
  rfl
theorem run_mfrom (b : Nat) (W : World) : (callFunc 17 #[.int .u64 (b : Int)]).run Tryz.prog W = .ok (.value (.float .f64 b)) W := by
  rw [run_callFunc_extern Tryz.func17 (by kernel_rfl) (by kernel_rfl) (e := Extern.MathFloatBits.float64frombits) (by kernel_rfl) (by kernel_rfl)]
  rfl

end LM
end Go.Proofs.YtpoojlnndgoeoaaGreatDoor

namespace Go.Proofs.YtpoojlnndgoeoaaGreatDoor
open Go Go.Shelf Go.RowKit Go.Sort Go.Lib
namespace LM
set_option linter.unusedVariables false

theorem OB.made (w W1 : World) (cur : Array Value) (hc : cur.size = 24) (hB : Below w.heap.size w W1) (hz : w.heap.size ≤ W1.heap.size) : OB w.heap.size w 0 [] (.slice (some ⟨W1.heap.size, 0, none⟩) 0 24) [] (W1.alloc (.cells cur 5)) :=
  ⟨World.ownsRow_made W1 cur 24 hz (by decide) (by rw [hc]), hB.alloc hz _, by simp; omega, .inl rfl⟩

set_option maxRecDepth 100000 in
set_option maxHeartbeats 2000000 in
theorem iformat_any (b c : Nat) (text : List UInt8) (w : World) (ht : text ≠ []) (hc : c < 256)
    (hF : ∀ v w1, OB w.heap.size w 0 [] v [] w1 → Calls Tryz.prog 112 #[v, .float .f64 b, .int .u8 (c : Int), .int .i64 (-1)] w1 fun r w' => ∃ v' g ds, r = .returned v' ∧ OB w.heap.size w g ds v' text w') :
    Calls Tryz.prog 76 #[.float .f64 b, .int .u8 (c : Int), .int .i64 (-1), .int .i64 64] w fun e w' => e = .returned (.string ⟨text.toArray⟩) ∧ Below w.heap.size w w' := by
  have HF := Lib.hid hF
  have hmx : max (3 : Int) 24 = 24 := by decide
  obtain ⟨i0, hi0, hz0, hz1, hz2⟩ := info_parts8 u8_info
  have hmk : ∃ cur : Array Value, cur.size = 24 ∧ ∀ W, (Instr.makeSlice 106 (.int .i64 0) (.int .i64 24)).run Tryz.prog W = .ok (.slice (some ⟨W.heap.size, 0, none⟩) 0 24) (W.alloc (.cells cur 5)) :=
    ⟨madeCells (Value.int .u8 0).cells ((24 : Int).toNat * i0.size), by rw [hz1]; simp [madeCells], fun W => run_make W 106 5 i0 (.int .u8 0) Tryz.underlying106 hi0 hz0 .i64 .i64 0 24 (by decide) (by decide) (by rw [hz2]; decide) (by decide)⟩
  obtain ⟨cur, hcs, hmk⟩ := hmk
  clear hi0 hz0 hz1 hz2
  clear hF
  go_enter Tryz.func76, Tryz.ntmps76
  go_wp2_with (fail)
  refine (HF.out _ _ (OB.made w w cur hcs (Below.refl _ w) (Nat.le_refl _))).mono ?_
  rintro r w1 ⟨v', g, ds, rfl, hob⟩
  have hb1 := Lib.hid hob.2.1
  have hcv : (convert 106 9 v').run Tryz.prog w1 = .ok (.string ⟨text.toArray⟩) w1 := by
    rcases hob.1 with ⟨hx, ⟨rfl, h0⟩ | ⟨g1, cap, cur1, rfl, hbg, hgc, hnc, hcm, hcz, htake⟩⟩
    · exact absurd (List.eq_nil_of_length_eq_zero h0) ht
    · have h := run_convert_bytes_back (P := Tryz.prog) w1 106 9 5 ⟨g1, 0, none⟩ cap text Tryz.underlying106 Tryz.underlying5 Tryz.underlying9 (fun j hj => by
        rw [Lib.add_plain, Nat.zero_add, cell_of_row w1 g1 j cur1 _ (0, 0) hgc, ← Array.getElem?_toList]
        have h2 : (cur1.toList.take (text.length * 1))[j]? = (text.map enc8)[j]? := by rw [htake]
        rw [List.getElem?_take, if_pos (by omega), List.getElem?_map, List.getElem?_eq_getElem hj] at h2
        exact h2)
      exact h
  clear hob
  go_wp2
  go_ret
  exact ⟨rfl, hb1.out⟩

set_option maxRecDepth 100000 in
set_option maxHeartbeats 2000000 in
theorem format_any (b c : Nat) (text : List UInt8) (w : World) (ht : text ≠ []) (hc : c < 256)
    (hF : ∀ v w1, OB w.heap.size w 0 [] v [] w1 → Calls Tryz.prog 112 #[v, .float .f64 b, .int .u8 (c : Int), .int .i64 (-1)] w1 fun r w' => ∃ v' g ds, r = .returned v' ∧ OB w.heap.size w g ds v' text w') :
    Calls Tryz.prog 44 #[.float .f64 b, .int .u8 (c : Int), .int .i64 (-1), .int .i64 64] w fun e w' => e = .returned (.string ⟨text.toArray⟩) ∧ Below w.heap.size w w' := by
  have HF := Lib.hid (iformat_any b c text w ht hc hF)
  clear hF
  go_enter Tryz.func44, Tryz.ntmps44
  go_wp2_with (fail)
  refine HF.out.mono ?_
  rintro e w' ⟨rfl, hb⟩
  go_wp2
  go_ret
  exact ⟨rfl, hb⟩

/-- a text with a point, as it is, or with one behind it -/
def pointB (l : List UInt8) : List UInt8 := if 46 ∈ l then l else l ++ [46, 48]

set_option maxRecDepth 100000 in
set_option maxHeartbeats 2000000 in
theorem pointed_any (l : List UInt8) (w : World) (hl : l.length ≤ 1000000) :
    Calls Tryz.prog 43 #[.string ⟨l.toArray⟩] w fun e w' => e = .returned (.string ⟨(pointB l).toArray⟩) ∧ w = w' := by
  have hC := fun W => Tryz.strings_Contains_one ⟨l.toArray⟩ 46 W
  by_cases h : 46 ∈ l
  · have e : decide (0 ≤ indexByte (⟨l.toArray⟩ : ByteArray).data.toList 46) = true := decide_eq_true (by
      have h2 := indexByte_ge l 46
      have h3 : indexByte l 46 ≠ -1 := fun hn => by
        obtain ⟨k, hk⟩ := List.mem_iff_getElem?.1 h
        exact indexByte_none hn k hk
      show 0 ≤ indexByte l 46
      omega)
    rw [e] at hC
    have HC := Lib.hid hC
    have hp : pointB l = l := by unfold pointB; rw [if_pos h]
    rw [hp]
    clear hC e hp h
    go_enter Tryz.func43, Tryz.ntmps43
    go_wp2_with (fail)
    refine (HC.out _).mono ?_
    rintro e w' ⟨rfl, rfl⟩
    go_wp2
    go_ret
    exact ⟨rfl, rfl⟩
  · have e : decide (0 ≤ indexByte (⟨l.toArray⟩ : ByteArray).data.toList 46) = false := decide_eq_false (by
      show ¬ 0 ≤ indexByte l 46
      intro h0
      obtain ⟨o, ho⟩ : ∃ o : Nat, indexByte l 46 = o := ⟨(indexByte l 46).toNat, by omega⟩
      exact h (List.mem_iff_getElem?.2 ⟨o, (indexByte_some ho).1⟩))
    rw [e] at hC
    have HC := Lib.hid hC
    have hp : pointB l = l ++ [46, 48] := by unfold pointB; rw [if_neg h]
    have HP := Lib.hid hp
    have hsz : (⟨l.toArray⟩ : ByteArray).size ≤ 1000000 := by rw [Lib.size_eq]; exact hl
    have hcat : (⟨l.toArray⟩ : ByteArray) ++ ⟨#[46, 48]⟩ = ⟨(l ++ [46, 48]).toArray⟩ := by
      apply ByteArray.ext
      simp
    have HCAT := Lib.hid hcat
    generalize hS : (⟨l.toArray⟩ : ByteArray) = S at HC hsz HCAT ⊢
    clear hC e hp h hcat hS
    go_enter Tryz.func43, Tryz.ntmps43
    go_wp2_with (fail)
    refine (HC.out _).mono ?_
    rintro e w' ⟨rfl, rfl⟩
    go_wp2
    go_ret
    refine ⟨?_, rfl⟩
    rw [HP.out, ← HCAT.out]
    rfl

theorem abs_bits (b : Nat) (hb : b < 18446744073709551616) : bits .andNot .u64 (b : Int) 9223372036854775808 = ((b % 9223372036854775808 : Nat) : Int) := by
  have h := u64_andNot_nat b 9223372036854775808 hb (by decide)
  have h2 : b &&& (18446744073709551615 - 9223372036854775808) = b % 2 ^ 63 := Nat.and_two_pow_sub_one_eq_mod b 63
  rw [h2] at h
  exact h
set_option maxHeartbeats 1000000 in
theorem abs_any (b : Nat) (w : World) (hb : b < 18446744073709551616) :
    Calls Tryz.prog 41 #[.float .f64 b] w fun e w' => e = .returned (.float .f64 (b % 9223372036854775808)) ∧ w = w' := by
  have h1 := run_mbits b
  have h2 := abs_bits b hb
  obtain ⟨a, ha⟩ : ∃ a, b % 9223372036854775808 = a := ⟨_, rfl⟩
  have h3 := run_mfrom a
  rw [ha] at h2 ⊢
  clear ha
  go_enter Tryz.func41, Tryz.ntmps41
  go_wp2
  go_ret
  exact ⟨rfl, rfl⟩
set_option maxHeartbeats 1000000 in
theorem isNaN_any (b : Nat) (w : World) (hb : b < 18446744073709551616) :
    Calls Tryz.prog 42 #[.float .f64 b] w fun e w' => e = .returned (.bool (decide (nanW b))) ∧ w = w' := by
  have h1 := order_self b hb
  by_cases h : nanW b
  · rw [if_pos h] at h1
    have h2 : FloatKind.f64.format.order b b = none := h1
    rw [decide_eq_true h]
    clear h1 h
    go_enter Tryz.func42, Tryz.ntmps42
    go_wp2
    go_ret
    exact ⟨rfl, rfl⟩
  · rw [if_neg h] at h1
    have h2 : FloatKind.f64.format.order b b = some .eq := h1
    rw [decide_eq_false h]
    clear h1 h
    go_enter Tryz.func42, Tryz.ntmps42
    go_wp2
    go_ret
    exact ⟨rfl, rfl⟩

end LM
end Go.Proofs.YtpoojlnndgoeoaaGreatDoor
