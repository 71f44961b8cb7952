/- Walks: what every statement of layer 3 asks first, piece by piece. -/
import Derived.Test.YtcfhiihhfcnfbaaGreatDoorJ28
import Derived.Test.YtcfhiihhfcnfbaaGreatDoorJ34
namespace Go.Proofs.YtcfhiihhfcnfbaaGreatDoor
open Go Go.Shelf Go.RowKit Go.Sort Go.Lib
namespace LM
set_option linter.unusedVariables false

theorem below_iter (W : World) (s : ByteArray) (pos : Nat) : Below W.heap.size W (W.iter s pos) := by
  unfold World.iter
  exact (Below.refl _ W).alloc (Nat.le_refl _) _

set_option maxRecDepth 100000 in
set_option maxHeartbeats 2000000 in
theorem cutAtE_15 (s : ByteArray) (w : World) (h : s.data.toList = [49, 46, 53, 101, 50]) :
    Calls Tryz.prog 98 #[.string s] w fun e w' => e = .returned (.tuple #[.string ⟨#[49, 46, 53]⟩, .string ⟨#[50]⟩, .bool true]) ∧ Below w.heap.size w w' := by
  have hz : s.size = 5 := by rw [Lib.size_eq, h]; rfl
  have hI := fun W => Tryz.strings_IndexAny_short s ⟨#[101, 69]⟩ W (by decide) (by omega) (fun j b hb => by
    rw [h] at hb
    have := List.mem_of_getElem? hb
    simp at this
    rcases this with rfl | rfl | rfl | rfl | rfl <;> decide)
  rw [show indexAny s.data.toList (⟨#[101, 69]⟩ : ByteArray).data.toList = 3 from by rw [h]; decide] at hI
  have e1 : s.extract 0 3 = ⟨#[49, 46, 53]⟩ := bytes_eq (l := [49, 46, 53]) (by rw [Lib.extract_data, h]; rfl)
  have e2 : s.extract 4 5 = ⟨#[50]⟩ := bytes_eq (l := [50]) (by rw [Lib.extract_data, h]; rfl)
  have I1 := Lib.hid hI
  clear hI h
  go_enter Tryz.func98, Tryz.ntmps98
  go_wp2_with (fail)
  refine (I1.out _).mono ?_
  rintro e w' ⟨rfl, pos, rfl⟩
  have HB := Lib.hid (below_iter w s pos)
  go_wp2_with (fail)
  have hw1 : IntKind.i64.wrap (3 + 1) = 4 := by decide
  go_quiet (fail)
  go_wp2_with (fail)
  go_returns
  exact ⟨rfl, below_drewN HB.out _⟩

set_option maxRecDepth 100000 in
set_option maxHeartbeats 1000000 in
theorem isNumeral_15 (s : ByteArray) (w : World) (h : s.data.toList = [45, 49, 46, 53, 101, 50]) :
    Calls Tryz.prog 47 #[.string s] w fun e w' => e = .returned (.bool true) ∧ Below w.heap.size w w' := by
  have hz : s.size = 6 := by rw [Lib.size_eq, h]; rfl
  have U1 := Lib.hid fun W => unsigned_any s W (by omega)
  have CE := Lib.hid fun t W (ht : t.data.toList = [49, 46, 53, 101, 50]) => cutAtE_15 t W ht
  have CU := Lib.hid fun W => scut_in ⟨#[49, 46, 53]⟩ 46 W (by decide) 1 (by decide) (by decide)
  have e1 : (⟨#[49, 46, 53]⟩ : ByteArray).extract 0 1 = ⟨#[49]⟩ := bytes_eq (l := [49]) rfl
  have e2 : (⟨#[49, 46, 53]⟩ : ByteArray).extract 2 (⟨#[49, 46, 53]⟩ : ByteArray).size = ⟨#[53]⟩ := bytes_eq (l := [53]) rfl
  rw [e1, e2] at CU
  have D1 := Lib.hid fun W => areDigits_any ⟨#[49]⟩ W (by decide)
  have D2 := Lib.hid fun W => areDigits_any ⟨#[53]⟩ W (by decide)
  have D3 := Lib.hid fun W => areDigits_any ⟨#[50]⟩ W (by decide)
  rw [show digB (⟨#[49]⟩ : ByteArray).data.toList = true from by decide] at D1
  rw [show digB (⟨#[53]⟩ : ByteArray).data.toList = true from by decide] at D2
  rw [show digB (⟨#[50]⟩ : ByteArray).data.toList = true from by decide] at D3
  have U2 := Lib.hid fun W => unsigned_any ⟨#[50]⟩ W (by decide)
  have HH := Lib.hid h
  clear h hz e1 e2
  go_enter Tryz.func47, Tryz.ntmps47
  go_wp2_with (fail)
  refine (U1.out _).mono ?_
  rintro e w1 ⟨⟨t, rfl, ht, _⟩, k1, rfl⟩
  have ht2 := ht.trans (show unsigB s.data.toList = [49, 46, 53, 101, 50] from by rw [HH.out]; decide)
  have CE2 := Lib.hid fun W => CE.out t W ht2
  clear ht ht2
  go_wp2_with (fail)
  refine (CE2.out _).mono ?_
  rintro e w2 ⟨rfl, hb2⟩
  have HB2 := Lib.hid ((below_drewN (Below.refl _ w) k1).trans hb2)
  clear hb2
  go_wp2_with (fail)
  refine (CU.out _).mono ?_
  rintro e w3 ⟨rfl, k3, rfl⟩
  go_wp2_with (fail)
  refine (D1.out _).mono ?_
  rintro e w' ⟨rfl, rfl⟩
  go_wp2_with (fail)
  refine (D2.out _).mono ?_
  rintro e w' ⟨rfl, rfl⟩
  go_wp2_with (fail)
  refine (U2.out _).mono ?_
  rintro e w4 ⟨⟨t4, rfl, ht4, _⟩, k4, rfl⟩
  have h4 : t4 = ⟨#[50]⟩ := bytes_eq (l := [50]) (ht4.trans (by decide))
  subst h4
  clear ht4
  go_wp2_with (fail)
  refine (D3.out _).mono ?_
  rintro e w' ⟨rfl, rfl⟩
  go_wp2_with (fail)
  go_ret
  exact ⟨rfl, below_drewN HB2.out _⟩

theorem FV.size_ok {w : World} (h : FV w) : 14 < w.heap.size := h.size.2.2.2

set_option maxRecDepth 100000 in
set_option maxHeartbeats 1000000 in
theorem floparse_15 (w : World) (hv : FV w) :
    Calls Tryz.prog 12 #[.string ⟨#[45, 49, 46, 53, 101, 50]⟩] w fun e w' => e = .returned (.tuple #[.float .f64 13862853709232340992, .int .i64 0]) ∧ Below w.heap.size w w' := by
  obtain ⟨s, hs⟩ : ∃ s, (⟨#[45, 49, 46, 53, 101, 50]⟩ : ByteArray) = s := ⟨_, rfl⟩
  have c1 : (s.toList == [43, 110, 97, 110, 46, 48]) = false := by rw [← hs, Go.ByteArray.toList_eq]; rfl
  have c2 : (s.toList == [43, 105, 110, 102, 46, 48]) = false := by rw [← hs, Go.ByteArray.toList_eq]; rfl
  have c3 : (s.toList == [45, 105, 110, 102, 46, 48]) = false := by rw [← hs, Go.ByteArray.toList_eq]; rfl
  have hl : s.data.toList = [45, 49, 46, 53, 101, 50] := by rw [← hs]
  have hz : s.size = 6 := by rw [Lib.size_eq, hl]; rfl
  rw [hs]
  have N1 := Lib.hid (isNumeral_15 s w hl)
  have P1 := Lib.hid fun W hW => parse_15 s W hl hW
  have HV := Lib.hid hv
  clear hs hl hv
  go_enter Tryz.func12, Tryz.ntmps12
  go_wp2_with (fail)
  refine N1.out.mono ?_
  rintro e w1 ⟨rfl, hb1⟩
  have HB1 := Lib.hid hb1
  clear hb1
  go_wp2_with (fail)
  refine (P1.out _ (HV.out.below HB1.out)).mono ?_
  rintro e w2 ⟨rfl, k, rfl⟩
  go_wp2_with (fail)
  go_returns
  exact ⟨rfl, below_drewN HB1.out _⟩

end LM
end Go.Proofs.YtcfhiihhfcnfbaaGreatDoor
