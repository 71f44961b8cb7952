/- Walks: the texts of one and a half and of a half. -/
import Derived.Test.YtcfhiihhfcnfbaaGreatDoorJ34
import Derived.Test.YtcfhiihhfcnfbaaGreatDoorJ38
namespace Go.Proofs.YtcfhiihhfcnfbaaGreatDoor
open Go Go.Shelf Go.RowKit Go.Sort Go.Lib
namespace LM
set_option linter.unusedVariables false

/-- what the library's variables hold that a number's text asks for -/
structure TV (w : World) : Prop where
  pow : PTab w
  tab : Lib.TabIs Tryz.prog w "internal/strconv.uint64pow10" .u64 Lib.pow10Tab
  size : 14 < w.heap.size
theorem TV.below {w w' : World} (h : TV w) (hb : Below w.heap.size w w') : TV w' := by
  have hc : ∀ g i v, g < w.heap.size → w.cell? ⟨g, i, none⟩ = some v → w'.cell? ⟨g, i, none⟩ = some v := fun g i v hg hv =>
    (World.cell?_of_block (a := ⟨g, i, none⟩) (hb.block g hg)).trans hv
  exact ⟨fun i x hx => ⟨hc _ _ _ h.size (h.pow i x hx).1, hc _ _ _ h.size (h.pow i x hx).2⟩, tab_below h.tab hb, Nat.lt_of_lt_of_le h.size hb.size⟩
theorem tv_of {l : List (String × DataW Unit)} {W : World} (h : laidMetH Tryz.prog l W)
    (e1 : ((l.filter fun x => x.2.handleName?.isNone).filter fun x => x.1 == "internal/strconv.uint64pow10") = [("internal/strconv.uint64pow10", Lib.tabData .u64 Lib.pow10Tab)])
    (e2 : ((l.filter fun x => x.2.handleName?.isNone).filter fun x => x.1 == "internal/strconv.pow10Tab") = [("internal/strconv.pow10Tab", Go.Pinned.pow10Tab)]) : TV W := by
  obtain ⟨p1, p2⟩ := ptab_of (listed_of h e2)
  exact ⟨p1, tab_of h e1, p2⟩
theorem FV.toT {w : World} (h : FV w) : TV w := ⟨h.pow, h.tab, h.size.2.2.2⟩

theorem dec_15e14 : Lib.decDigits 1500000000000000 = [49, 53, 48, 48, 48, 48, 48, 48, 48, 48, 48, 48, 48, 48, 48, 48] := by
  rw [dec_big (by decide), show 1500000000000000 / 10 = 150000000000000 from by decide, dec_big (by decide), show 150000000000000 / 10 = 15000000000000 from by decide, dec_big (by decide), show 15000000000000 / 10 = 1500000000000 from by decide, dec_big (by decide), show 1500000000000 / 10 = 150000000000 from by decide, dec_big (by decide), show 150000000000 / 10 = 15000000000 from by decide, dec_big (by decide), show 15000000000 / 10 = 1500000000 from by decide, dec_big (by decide), show 1500000000 / 10 = 150000000 from by decide, dec_big (by decide), show 150000000 / 10 = 15000000 from by decide, dec_big (by decide), show 15000000 / 10 = 1500000 from by decide, dec_big (by decide), show 1500000 / 10 = 150000 from by decide, dec_big (by decide), show 150000 / 10 = 15000 from by decide, dec_big (by decide), show 15000 / 10 = 1500 from by decide, dec_big (by decide), show 1500 / 10 = 150 from by decide, dec_big (by decide), show 150 / 10 = 15 from by decide, dec_big (by decide), show 15 / 10 = 1 from by decide, Lib.decDigits_one (by decide)]
  rfl
theorem dec_5e15 : Lib.decDigits 5000000000000000 = [53, 48, 48, 48, 48, 48, 48, 48, 48, 48, 48, 48, 48, 48, 48, 48] := by
  rw [dec_big (by decide), show 5000000000000000 / 10 = 500000000000000 from by decide, dec_big (by decide), show 500000000000000 / 10 = 50000000000000 from by decide, dec_big (by decide), show 50000000000000 / 10 = 5000000000000 from by decide, dec_big (by decide), show 5000000000000 / 10 = 500000000000 from by decide, dec_big (by decide), show 500000000000 / 10 = 50000000000 from by decide, dec_big (by decide), show 50000000000 / 10 = 5000000000 from by decide, dec_big (by decide), show 5000000000 / 10 = 500000000 from by decide, dec_big (by decide), show 500000000 / 10 = 50000000 from by decide, dec_big (by decide), show 50000000 / 10 = 5000000 from by decide, dec_big (by decide), show 5000000 / 10 = 500000 from by decide, dec_big (by decide), show 500000 / 10 = 50000 from by decide, dec_big (by decide), show 50000 / 10 = 5000 from by decide, dec_big (by decide), show 5000 / 10 = 500 from by decide, dec_big (by decide), show 500 / 10 = 50 from by decide, dec_big (by decide), show 50 / 10 = 5 from by decide, Lib.decDigits_one (by decide)]
  rfl
theorem n_15e14 : Lib.nDigits 1500000000000000 = 16 := by rw [← Lib.decDigits_length, dec_15e14]; rfl
theorem nzd_15e14 : nzd (Lib.decDigits 1500000000000000) = 2 := by rw [dec_15e14]; decide
theorem n_5e15 : Lib.nDigits 5000000000000000 = 16 := by rw [← Lib.decDigits_length, dec_5e15]; rfl
theorem nzd_5e15 : nzd (Lib.decDigits 5000000000000000) = 1 := by rw [dec_5e15]; decide
theorem short_1h : shortT 13835058055282163712 (-63) 16 (13835058055282163712 - 1024) (13835058055282163712 + 1024) (0 : Nat) = (1500000000000000, -15) := by kernel_rfl
theorem short_h : shortT 9223372036854775808 (-64) 17 (9223372036854775808 - 512) (9223372036854775808 + 1024) (0 : Nat) = (5000000000000000, -16) := by kernel_rfl
theorem call_1h (w : World) (hv : TV w) : Calls Tryz.prog 259 #[.int .u64 13835058055282163712, .int .i64 (-63)] w fun r w' => r = .returned (.tuple #[.int .u64 1500000000000000, .int .i64 (-15)]) ∧ Below w.heap.size w w' := by
  have h := short_mid 13835058055282163712 (-63) 16 0 w hv.pow hv.size (by decide) (by decide) (by decide) (by decide) (by decide) (by decide) (by decide) (by decide) (by decide) (by decide)
  rw [short_1h] at h
  exact h
theorem call_h (w : World) (hv : TV w) : Calls Tryz.prog 259 #[.int .u64 9223372036854775808, .int .i64 (-64)] w fun r w' => r = .returned (.tuple #[.int .u64 5000000000000000, .int .i64 (-16)]) ∧ Below w.heap.size w w' := by
  have h := short_low 9223372036854775808 (-64) 17 0 w hv.pow hv.size (by decide) (by decide) (by decide) (by decide) (by decide) (by decide) (by decide) (by decide) (by decide)
  rw [short_h] at h
  exact h
theorem ftoa_1h (w : World) (hv : TV w) : ∀ v w1, OB w.heap.size w 0 [] v [] w1 → Calls Tryz.prog 182 #[v, .float .f64 4609434218613702656, .int .u8 (102 : Nat), .int .i64 (-1)] w1 fun r w' => ∃ v' g ds, r = .returned v' ∧ OB w.heap.size w g ds v' [49, 46, 53] w' := fun v w1 hob => by
  have hv1 := hv.below hob.2.1
  have h := ftoaF_any 4609434218613702656 false 1023 2251799813685248 6755399441055744 53 11 13835058055282163712 (-63) (-15) 1500000000000000 w.heap.size w v w1 (by decide) hob (by decide) (by decide) (by decide) (by decide) (by decide) (by decide) (by decide) (by decide) (by decide) (by decide) (by decide)
    (fun W _ hW => call_1h W (hv1.below hW)) hv1.tab (by decide) (by decide) (by decide) (by rw [nzd_15e14]; decide) (by rw [n_15e14]; decide)
  rw [nzd_15e14, n_15e14, dec_15e14] at h
  exact h.mono fun r w' ⟨v', g, h1, h2⟩ => ⟨v', g, _, h1, h2⟩
theorem ftoa_h (w : World) (hv : TV w) : ∀ v w1, OB w.heap.size w 0 [] v [] w1 → Calls Tryz.prog 182 #[v, .float .f64 4602678819172646912, .int .u8 (102 : Nat), .int .i64 (-1)] w1 fun r w' => ∃ v' g ds, r = .returned v' ∧ OB w.heap.size w g ds v' [48, 46, 53] w' := fun v w1 hob => by
  have hv1 := hv.below hob.2.1
  have h := ftoaF_any 4602678819172646912 false 1022 0 4503599627370496 53 11 9223372036854775808 (-64) (-16) 5000000000000000 w.heap.size w v w1 (by decide) hob (by decide) (by decide) (by decide) (by decide) (by decide) (by decide) (by decide) (by decide) (by decide) (by decide) (by decide)
    (fun W _ hW => call_h W (hv1.below hW)) hv1.tab (by decide) (by decide) (by decide) (by rw [nzd_5e15]; decide) (by rw [n_5e15]; decide)
  rw [nzd_5e15, n_5e15, dec_5e15] at h
  exact h.mono fun r w' ⟨v', g, h1, h2⟩ => ⟨v', g, _, h1, h2⟩
theorem text_1h (w : World) (hv : TV w) : Calls Tryz.prog 15 #[.float .f64 4609434218613702656] w fun e w' => e = .returned (.string ⟨#[49, 46, 53]⟩) ∧ Below w.heap.size w w' :=
  flotext_f 4609434218613702656 4609434218613702656 [49, 46, 53] w (by decide) (by decide) (by decide) (by decide) (by decide) (by decide) (by decide) (by decide) (ftoa_1h w hv)
theorem text_h (w : World) (hv : TV w) : Calls Tryz.prog 15 #[.float .f64 4602678819172646912] w fun e w' => e = .returned (.string ⟨#[48, 46, 53]⟩) ∧ Below w.heap.size w w' :=
  flotext_f 4602678819172646912 4602678819172646912 [48, 46, 53] w (by decide) (by decide) (by decide) (by decide) (by decide) (by decide) (by decide) (by decide) (ftoa_h w hv)

end LM
end Go.Proofs.YtcfhiihhfcnfbaaGreatDoor
