/- What every statement of layer 3 asks first. -/
import Derived.Test.YtpoojlnndgoeoaaGreatDoorFloH
import Derived.Test.YtpoojlnndgoeoaaGreatDoorFloI
import Derived.Test.YtpoojlnndgoeoaaGreatDoorFloM
import Derived.Test.YtpoojlnndgoeoaaGreatDoorLimbR
import Derived.Test.YtpoojlnndgoeoaaGreatDoorExactF
import Derived.Test.YtpoojlnndgoeoaaGreatDoorLimbCopy
import Derived.Test.YtpoojlnndgoeoaaGreatDoorFloO
namespace Go.Proofs.YtpoojlnndgoeoaaGreatDoor
open Go Go.Shelf Go.RowKit Go.Sort Go.Lib
namespace LM
set_option linter.unusedVariables false

theorem dec_e15 : Lib.decDigits 1000000000000000 = [49, 48, 48, 48, 48, 48, 48, 48, 48, 48, 48, 48, 48, 48, 48, 48] := by
  rw [dec_big (by decide), show 1000000000000000 / 10 = 100000000000000 from by decide, dec_big (by decide), show 100000000000000 / 10 = 10000000000000 from by decide, dec_big (by decide), show 10000000000000 / 10 = 1000000000000 from by decide, dec_big (by decide), show 1000000000000 / 10 = 100000000000 from by decide, dec_big (by decide), show 100000000000 / 10 = 10000000000 from by decide, dec_big (by decide), show 10000000000 / 10 = 1000000000 from by decide, dec_big (by decide), show 1000000000 / 10 = 100000000 from by decide, dec_big (by decide), show 100000000 / 10 = 10000000 from by decide, dec_big (by decide), show 10000000 / 10 = 1000000 from by decide, dec_big (by decide), show 1000000 / 10 = 100000 from by decide, dec_big (by decide), show 100000 / 10 = 10000 from by decide, dec_big (by decide), show 10000 / 10 = 1000 from by decide, dec_big (by decide), show 1000 / 10 = 100 from by decide, dec_big (by decide), show 100 / 10 = 10 from by decide, dec_big (by decide), show 10 / 10 = 1 from by decide, Lib.decDigits_one (by decide)]
  rfl
theorem n_e15 : Lib.nDigits 1000000000000000 = 16 := by rw [← Lib.decDigits_length, dec_e15]; rfl
theorem nzd_e15 : nzd (Lib.decDigits 1000000000000000) = 1 := by rw [dec_e15]; decide

theorem short_100 : shortT 14411518807585587200 (-57) 14 (14411518807585587200 - 1024) (14411518807585587200 + 1024) (0 : Nat) = (1000000000000000, -13) := by kernel_rfl
theorem short_e21 : shortT 15625000000000000000 6 (-5) (15625000000000000000 - 1024) (15625000000000000000 + 1024) (0 : Nat) = (1000000000000000, 6) := by kernel_rfl
theorem short_m4 : shortT 15111572745182865408 (-77) 20 (15111572745182865408 - 1024) (15111572745182865408 + 1024) (1 : Nat) = (1000000000000000, -19) := by kernel_rfl

theorem call_100 (w : World) (hv : FV w) : Calls Tryz.prog 149 #[.int .u64 14411518807585587200, .int .i64 (-57)] w fun r w' => r = .returned (.tuple #[.int .u64 1000000000000000, .int .i64 (-13)]) ∧ Below w.heap.size w w' := by
  have h := short_mid 14411518807585587200 (-57) 14 0 w hv.pow hv.size.2.2.2 (by decide) (by decide) (by decide) (by decide) (by decide) (by decide) (by decide) (by decide) (by decide) (by decide)
  rw [short_100] at h
  exact h
theorem call_e21 (w : World) (hv : FV w) : Calls Tryz.prog 149 #[.int .u64 15625000000000000000, .int .i64 6] w fun r w' => r = .returned (.tuple #[.int .u64 1000000000000000, .int .i64 6]) ∧ Below w.heap.size w w' := by
  have h := short_mid 15625000000000000000 6 (-5) 0 w hv.pow hv.size.2.2.2 (by decide) (by decide) (by decide) (by decide) (by decide) (by decide) (by decide) (by decide) (by decide) (by decide)
  rw [short_e21] at h
  exact h
theorem call_m4 (w : World) (hv : FV w) : Calls Tryz.prog 149 #[.int .u64 15111572745182865408, .int .i64 (-77)] w fun r w' => r = .returned (.tuple #[.int .u64 1000000000000000, .int .i64 (-19)]) ∧ Below w.heap.size w w' := by
  have h := short_mid 15111572745182865408 (-77) 20 1 w hv.pow hv.size.2.2.2 (by decide) (by decide) (by decide) (by decide) (by decide) (by decide) (by decide) (by decide) (by decide) (by decide)
  rw [short_m4] at h
  exact h


theorem ftoa_100 (w : World) (hv : FV w) : ∀ v w1, OB w.heap.size w 0 [] v [] w1 → Calls Tryz.prog 112 #[v, .float .f64 4636737291354636288, .int .u8 (102 : Nat), .int .i64 (-1)] w1 fun r w' => ∃ v' g ds, r = .returned v' ∧ OB w.heap.size w g ds v' [49, 48, 48] w' := fun v w1 hob => by
  have hv1 := hv.below hob.2.1
  have h := ftoaF_any 4636737291354636288 false 1029 2533274790395904 7036874417766400 53 11 14411518807585587200 (-57) (-13) 1000000000000000 w.heap.size w v w1 (by decide) hob (by decide) (by decide) (by decide) (by decide) (by decide) (by decide) (by decide) (by decide) (by decide) (by decide) (by decide)
    (fun W _ hW => call_100 W (hv1.below hW)) hv1.tab (by decide) (by decide) (by decide) (by rw [nzd_e15]; decide) (by rw [n_e15]; decide)
  rw [nzd_e15, n_e15, dec_e15] at h
  exact h.mono fun r w' ⟨v', g, h1, h2⟩ => ⟨v', g, _, h1, h2⟩

theorem ftoa_e21 (w : World) (hv : FV w) : ∀ v w1, OB w.heap.size w 0 [] v [] w1 → Calls Tryz.prog 112 #[v, .float .f64 4921056587992461136, .int .u8 (101 : Nat), .int .i64 (-1)] w1 fun r w' => ∃ v' g ds, r = .returned v' ∧ OB w.heap.size w g ds v' [49, 101, 43, 50, 49] w' := fun v w1 hob => by
  have hv1 := hv.below hob.2.1
  have h := ftoaE_any 4921056587992461136 false 1092 3125794903879504 7629394531250000 53 11 15625000000000000000 (6) (6) 1000000000000000 w.heap.size w v w1 (by decide) hob (by decide) (by decide) (by decide) (by decide) (by decide) (by decide) (by decide) (by decide) (by decide) (by decide) (by decide)
    (fun W _ hW => call_e21 W (hv1.below hW)) hv1.tab (by decide) (by decide) (by decide) (by rw [nzd_e15]; decide) (by rw [n_e15]; decide)
  rw [nzd_e15, n_e15, dec_e15] at h
  exact h.mono fun r w' ⟨v', g, h1, h2⟩ => ⟨v', g, _, h1, h2⟩

theorem ftoa_m4 (w : World) (hv : FV w) : ∀ v w1, OB w.heap.size w 0 [] v [] w1 → Calls Tryz.prog 112 #[v, .float .f64 4547007122018943789, .int .u8 (101 : Nat), .int .i64 (-1)] w1 fun r w' => ∃ v' g ds, r = .returned v' ∧ OB w.heap.size w g ds v' [49, 101, 45, 48, 52] w' := fun v w1 hob => by
  have hv1 := hv.below hob.2.1
  have h := ftoaE_any 4547007122018943789 false 1009 2875098002113325 7378697629483821 53 11 15111572745182865408 (-77) (-19) 1000000000000000 w.heap.size w v w1 (by decide) hob (by decide) (by decide) (by decide) (by decide) (by decide) (by decide) (by decide) (by decide) (by decide) (by decide) (by decide)
    (fun W _ hW => call_m4 W (hv1.below hW)) hv1.tab (by decide) (by decide) (by decide) (by rw [nzd_e15]; decide) (by rw [n_e15]; decide)
  rw [nzd_e15, n_e15, dec_e15] at h
  exact h.mono fun r w' ⟨v', g, h1, h2⟩ => ⟨v', g, _, h1, h2⟩

theorem text_100 (w : World) (hv : FV w) : Calls Tryz.prog 13 #[.float .f64 4636737291354636288] w fun e w' => e = .returned (.string ⟨#[49, 48, 48, 46, 48]⟩) ∧ Below w.heap.size w w' :=
  flotext_f 4636737291354636288 4636737291354636288 [49, 48, 48] w (by decide) (by decide) (by decide) (by decide) (by decide) (by decide) (by decide) (by decide) (ftoa_100 w hv)
theorem text_e21 (w : World) (hv : FV w) : Calls Tryz.prog 13 #[.float .f64 4921056587992461136] w fun e w' => e = .returned (.string ⟨#[49, 46, 48, 101, 50, 49]⟩) ∧ Below w.heap.size w w' := by
  have h := flotext_e 4921056587992461136 4921056587992461136 [49, 101, 43, 50, 49] [49] [43, 50, 49] 21 w (by decide) (by decide) (by decide) (by decide) (by decide) (by decide) (by decide) (by decide) rfl (by decide) (by decide) (by decide) (by decide) hv.tab (ftoa_e21 w hv)
  rw [show Lib.itoa 21 = [50, 49] from by
    unfold Lib.itoa
    rw [if_neg (by decide), show (21 : Int).toNat = 21 from rfl, dec_big (by decide), show 21 / 10 = 2 from by decide, Lib.decDigits_one (by decide)]
    rfl] at h
  exact h
theorem text_m4 (w : World) (hv : FV w) : Calls Tryz.prog 13 #[.float .f64 4547007122018943789] w fun e w' => e = .returned (.string ⟨#[49, 46, 48, 101, 45, 52]⟩) ∧ Below w.heap.size w w' := by
  have h := flotext_e 4547007122018943789 4547007122018943789 [49, 101, 45, 48, 52] [49] [45, 48, 52] (-4) w (by decide) (by decide) (by decide) (by decide) (by decide) (by decide) (by decide) (by decide) rfl (by decide) (by decide) (by decide) (by decide) hv.tab (ftoa_m4 w hv)
  rw [show Lib.itoa (-4) = [45, 52] from by
    unfold Lib.itoa
    rw [if_pos (by decide), show (-4 : Int).natAbs = 4 from rfl, Lib.decDigits_one (by decide)]
    rfl] at h
  exact h

end LM
end Go.Proofs.YtpoojlnndgoeoaaGreatDoor

namespace Go.Proofs.YtpoojlnndgoeoaaGreatDoor
open Go Go.RowKit
namespace LM
set_option linter.unusedVariables false

set_option maxRecDepth 100000 in
set_option maxHeartbeats 4000000 in
theorem falive_any (w : World) (hv : FV w) :
    Calls Tryz.prog 12 #[] w fun e w' => e = .returned (.bool true) ∧ Below w.heap.size w w' := by
  have P1 := Lib.hid (floparse_15 w hv)
  have HV := Lib.hid hv
  have E1 := Lib.hid floexact_150
  have T1 := Lib.hid text_100
  have T2 := Lib.hid text_e21
  have T3 := Lib.hid text_m4
  have R1 := Lib.hid rtext_150
  have O1 := Lib.hid floof_150
  have o1 : (FloatKind.f64.format.order M150 M150 == some .eq) = true := by decide
  have c1 : ((⟨#[49, 48, 48, 46, 48]⟩ : ByteArray).toList == [49, 48, 48, 46, 48]) = true := by rw [Go.ByteArray.toList_eq]; rfl
  have c2 : ((⟨#[49, 46, 48, 101, 50, 49]⟩ : ByteArray).toList == [49, 46, 48, 101, 50, 49]) = true := by rw [Go.ByteArray.toList_eq]; rfl
  have c3 : ((⟨#[49, 46, 48, 101, 45, 52]⟩ : ByteArray).toList == [49, 46, 48, 101, 45, 52]) = true := by rw [Go.ByteArray.toList_eq]; rfl
  have c4 : ((⟨#[45, 49, 53, 48]⟩ : ByteArray).toList == [45, 49, 53, 48]) = true := by rw [Go.ByteArray.toList_eq]; rfl
  clear hv
  go_enter Tryz.func12, Tryz.ntmps12
  go_wp2_with (fail)
  refine P1.out.mono ?_
  rintro e w1 ⟨rfl, hb1⟩
  have HB1 := Lib.hid hb1
  clear hb1
  go_wp2_with (fail)
  refine (E1.out _).mono ?_
  rintro e w2 ⟨s2, A2, n2, c2', er, rfl, hcase, hb2⟩
  obtain ⟨rfl, hv2⟩ : er = 0 ∧ IntV w2 (.agg #[.bool s2, .slice A2 n2 c2']) (-150) := by
    rcases hcase with ⟨h, _⟩ | ⟨_, h1, h2⟩
    · exact absurd h (small_not_big (by decide))
    · exact ⟨h1, h2⟩
  have HV2 := Lib.hid hv2
  have HB2 := Lib.hid (HB1.out.trans (hb2.mono HB1.out.size))
  clear hcase hv2 hb2
  have X2 := Lib.hid (Bx.new w2 s2 A2 n2 c2')
  have V2 := Lib.hid (HV2.out.alloc (.cells #[.bool s2, .slice A2 n2 c2'] 41))
  have HB3 : Hid (Below w.heap.size w (w2.alloc (.cells #[.bool s2, .slice A2 n2 c2'] 41))) := Lib.hid (HB2.out.alloc HB2.out.size _)
  go_wp2_with (fail)
  refine (T1.out _ (HV.out.below HB3.out)).mono ?_
  rintro e w4 ⟨rfl, hb4⟩
  have X4 := Lib.hid (X2.out.below hb4)
  have V4 := Lib.hid (V2.out.keep hb4)
  have HB4 := Lib.hid (bel_trans (B := w.heap.size) HB3.out hb4)
  clear hb4
  go_wp2_with (fail)
  refine (T2.out _ (HV.out.below HB4.out)).mono ?_
  rintro e w5 ⟨rfl, hb5⟩
  have X5 := Lib.hid (X4.out.below hb5)
  have V5 := Lib.hid (V4.out.keep hb5)
  have HB5 := Lib.hid (bel_trans (B := w.heap.size) HB4.out hb5)
  clear hb5
  go_wp2_with (fail)
  refine (T3.out _ (HV.out.below HB5.out)).mono ?_
  rintro e w6 ⟨rfl, hb6⟩
  have X6 := Lib.hid (X5.out.below hb6)
  have V6 := Lib.hid (V5.out.keep hb6)
  have HB6 := Lib.hid (bel_trans (B := w.heap.size) HB5.out hb6)
  clear hb6
  obtain ⟨q0, q1, -, -, ql⟩ := X6.out.facts
  go_wp2_with (fail)
  refine (R1.out _ _ V6.out).mono ?_
  rintro e w7 ⟨rfl, hb7⟩
  have X7 := Lib.hid (X6.out.below hb7)
  have V7 := Lib.hid (V6.out.keep hb7)
  have HB7 := Lib.hid (bel_trans (B := w.heap.size) HB6.out hb7)
  clear hb7 q0 q1 ql
  obtain ⟨q0, q1, -, -, ql⟩ := X7.out.facts
  go_wp2_with (fail)
  refine (O1.out _ _ V7.out).mono ?_
  rintro e w8 ⟨rfl, hb8⟩
  have HB8 := Lib.hid (bel_trans (B := w.heap.size) HB7.out hb8)
  clear hb8 q0 q1 ql
  go_wp2
  go_ret
  exact ⟨rfl, HB8.out⟩

end LM
end Go.Proofs.YtpoojlnndgoeoaaGreatDoor
