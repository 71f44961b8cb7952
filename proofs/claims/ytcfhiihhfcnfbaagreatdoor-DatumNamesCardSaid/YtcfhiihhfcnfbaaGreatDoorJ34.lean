/- Walks: the texts of three floating numbers. -/
import Derived.Test.YtcfhiihhfcnfbaaGreatDoorJ28
import Derived.Lib.AtoiErrMem
import Derived.Lib.AppendIntMem
import Derived.Test.YtcfhiihhfcnfbaaGreatDoorJ18
import Derived.Test.YtcfhiihhfcnfbaaGreatDoorJ12
namespace Go.Proofs.YtcfhiihhfcnfbaaGreatDoor
open Go Go.Shelf Go.RowKit Go.Sort Go.Lib
namespace LM
set_option linter.unusedVariables false

set_option maxHeartbeats 1000000 in
theorem isInf_pos (b : Nat) (w : World) (x : Bool) (h1 : (FloatKind.f64.format.order b 9218868437227405311 == some .gt) = x) :
    Calls Tryz.prog 51 #[.float .f64 b, .int .i64 1] w fun e w' => e = .returned (.bool x) ∧ w = w' := by
  go_enter Tryz.func51, Tryz.ntmps51
  go_wp2
  go_ret
  exact ⟨rfl, rfl⟩
set_option maxHeartbeats 1000000 in
theorem isInf_neg (b : Nat) (w : World) (x : Bool) (h1 : (FloatKind.f64.format.order (Op.negFloat .f64 b) 9218868437227405311 == some .gt) = x) :
    Calls Tryz.prog 51 #[.float .f64 b, .int .i64 (-1)] w fun e w' => e = .returned (.bool x) ∧ w = w' := by
  have h2 : ∀ W, (Op.unary .neg (.float .f64 b)).run Tryz.prog W = .ok (.float .f64 (Op.negFloat .f64 b)) W := fun W => rfl
  go_enter Tryz.func51, Tryz.ntmps51
  go_wp2
  go_ret
  exact ⟨rfl, rfl⟩

set_option maxRecDepth 100000 in
set_option maxHeartbeats 4000000 in
theorem flotext_f (b a : Nat) (l : List UInt8) (w : World) (hb : b < 18446744073709551616) (ha : b % 9223372036854775808 = a) (hn : ¬ nanW b)
    (i1 : (FloatKind.f64.format.order b 9218868437227405311 == some .gt) = false) (i2 : (FloatKind.f64.format.order (Op.negFloat .f64 b) 9218868437227405311 == some .gt) = false)
    (z : (FloatKind.f64.format.order a 0 == some .eq) = true ∨ ((FloatKind.f64.format.order a 0 == some .eq) = false ∧ (FloatKind.f64.format.order a 4562254508917369340 == some .gt || FloatKind.f64.format.order a 4562254508917369340 == some .eq) = true ∧ (FloatKind.f64.format.order a 4921056587992461136 == some .lt) = true))
    (hl : l.length ≤ 1000000) (hl0 : l ≠ [])
    (hF : ∀ v w1, OB w.heap.size w 0 [] v [] w1 → Calls Tryz.prog 182 #[v, .float .f64 b, .int .u8 (102 : Nat), .int .i64 (-1)] w1 fun r w' => ∃ v' g ds, r = .returned v' ∧ OB w.heap.size w g ds v' l w') :
    Calls Tryz.prog 15 #[.float .f64 b] w fun e w' => e = .returned (.string ⟨(pointB l).toArray⟩) ∧ Below w.heap.size w w' := by
  have hA := fun W => abs_any b W hb
  rw [ha] at hA
  have hN := fun W => isNaN_any b W hb
  rw [decide_eq_false hn] at hN
  have A1 := Lib.hid hA
  have N1 := Lib.hid hN
  have P1 := Lib.hid fun W => isInf_pos b W false i1
  have P2 := Lib.hid fun W => isInf_neg b W false i2
  have F1 := Lib.hid (format_any b 102 l w hl0 (by decide) hF)
  have Q1 := Lib.hid fun W => pointed_any l W hl
  clear hA hN hF i1 i2 ha hn
  rcases z with z0 | ⟨z0, z1, z2⟩
  all_goals
    go_enter Tryz.func15, Tryz.ntmps15
    go_wp2_with (fail)
    refine (A1.out _).mono ?_
    rintro e w' ⟨rfl, rfl⟩
    go_wp2_with (fail)
    refine (N1.out _).mono ?_
    rintro e w' ⟨rfl, rfl⟩
    go_wp2_with (fail)
    refine (P1.out _).mono ?_
    rintro e w' ⟨rfl, rfl⟩
    go_wp2_with (fail)
    refine (P2.out _).mono ?_
    rintro e w' ⟨rfl, rfl⟩
    go_wp2_with (fail)
    refine F1.out.mono ?_
    rintro e w' ⟨rfl, hb1⟩
    go_wp2_with (fail)
    refine (Q1.out _).mono ?_
    rintro e w2 ⟨rfl, rfl⟩
    go_wp2
    go_ret
    exact ⟨rfl, hb1⟩

theorem index_at {pre ex : List UInt8} (h : 101 ∉ pre) : indexByte (pre ++ 101 :: ex) 101 = (pre.length : Int) := by
  have h1 := indexByte_ge (pre ++ 101 :: ex) 101
  have hm : (pre ++ 101 :: ex)[pre.length]? = some 101 := by simp
  have h2 : indexByte (pre ++ 101 :: ex) 101 ≠ -1 := fun hn => indexByte_none hn pre.length hm
  obtain ⟨o, ho⟩ : ∃ o : Nat, indexByte (pre ++ 101 :: ex) 101 = o := ⟨(indexByte (pre ++ 101 :: ex) 101).toNat, by omega⟩
  obtain ⟨h3, h4⟩ := indexByte_some ho
  rw [ho]
  rcases Nat.lt_trichotomy o pre.length with hlt | heq | hgt
  · rw [List.getElem?_append_left hlt, List.getElem?_eq_getElem hlt] at h3
    injection h3 with h3
    exact absurd (h3 ▸ List.getElem_mem hlt) h
  · rw [heq]
  · exact absurd hm (h4 _ hgt)
theorem bytes_eq {s : ByteArray} {l : List UInt8} (h : s.data.toList = l) : s = ⟨l.toArray⟩ := by
  subst h
  cases s
  rfl

set_option maxRecDepth 100000 in
set_option maxHeartbeats 4000000 in
theorem flotext_e (b a : Nat) (l pre ex : List UInt8) (k : Int) (w : World) (hb : b < 18446744073709551616) (ha : b % 9223372036854775808 = a) (hn : ¬ nanW b)
    (i1 : (FloatKind.f64.format.order b 9218868437227405311 == some .gt) = false) (i2 : (FloatKind.f64.format.order (Op.negFloat .f64 b) 9218868437227405311 == some .gt) = false)
    (z0 : (FloatKind.f64.format.order a 0 == some .eq) = false) (z : ((FloatKind.f64.format.order a 4562254508917369340 == some .gt || FloatKind.f64.format.order a 4562254508917369340 == some .eq) = false) ∨ ((FloatKind.f64.format.order a 4562254508917369340 == some .gt || FloatKind.f64.format.order a 4562254508917369340 == some .eq) = true ∧ (FloatKind.f64.format.order a 4921056587992461136 == some .lt) = false))
    (hl : l.length ≤ 1000000) (hle : l = pre ++ 101 :: ex) (hpre : 101 ∉ pre) (hex : ex.length ≤ 18) (hk : Lib.atoi ex = some k) (hkb : -1000 ≤ k ∧ k ≤ 1000) (htab : Lib.TabIs Tryz.prog w "internal/strconv.uint64pow10" .u64 Lib.pow10Tab)
    (hF : ∀ v w1, OB w.heap.size w 0 [] v [] w1 → Calls Tryz.prog 182 #[v, .float .f64 b, .int .u8 (101 : Nat), .int .i64 (-1)] w1 fun r w' => ∃ v' g ds, r = .returned v' ∧ OB w.heap.size w g ds v' l w') :
    Calls Tryz.prog 15 #[.float .f64 b] w fun e w' => e = .returned (.string ⟨(pointB pre ++ 101 :: Lib.itoa k).toArray⟩) ∧ Below w.heap.size w w' := by
  have hA := fun W => abs_any b W hb
  rw [ha] at hA
  have hN := fun W => isNaN_any b W hb
  rw [decide_eq_false hn] at hN
  have hz : (⟨l.toArray⟩ : ByteArray).size = l.length := Lib.size_eq _
  have hix : indexByte (⟨l.toArray⟩ : ByteArray).data.toList 101 = ((pre.length : Nat) : Int) := by
    show indexByte l 101 = _
    rw [hle]
    exact index_at hpre
  have e1 : (⟨l.toArray⟩ : ByteArray).extract 0 pre.length = ⟨pre.toArray⟩ := bytes_eq (by
    rw [Lib.extract_data, List.drop_zero, Nat.sub_zero]
    show l.take pre.length = pre
    rw [hle, List.take_left])
  have e2 : (⟨l.toArray⟩ : ByteArray).extract (pre.length + 1) (⟨l.toArray⟩ : ByteArray).size = ⟨ex.toArray⟩ := bytes_eq (by
    rw [Lib.extract_data, hz]
    show (l.drop (pre.length + 1)).take _ = ex
    have hd : l.drop (pre.length + 1) = ex := by rw [hle]; simp
    rw [hd]
    exact List.take_of_length_le (by rw [hle]; simp; omega))
  have hcut := fun W => scut_in ⟨l.toArray⟩ 101 W (by rw [hz]; omega) pre.length hix (by rw [hz, hle]; simp)
  rw [e1, e2] at hcut
  have A1 := Lib.hid hA
  have N1 := Lib.hid hN
  have P1 := Lib.hid fun W => isInf_pos b W false i1
  have P2 := Lib.hid fun W => isInf_neg b W false i2
  have F1 := Lib.hid (format_any b 101 l w (by rw [hle]; simp) (by decide) hF)
  have C1 := Lib.hid hcut
  have T1 := Lib.hid fun W => Tryz.strconv_Atoi ⟨ex.toArray⟩ k (by rw [Lib.size_eq]; exact hex) hk W
  have Q1 := Lib.hid fun W => pointed_any pre W (by rw [hle] at hl; simp at hl; omega)
  have I1 : Hid (∀ W, Lib.TabIs Tryz.prog W "internal/strconv.uint64pow10" .u64 Lib.pow10Tab → _) := Lib.hid fun W h => Tryz.strconv_Itoa k (by omega) (by omega) W h
  have HTAB := Lib.hid htab
  have hpl : pre.length ≤ 1000000 := by rw [hle] at hl; simp at hl; omega
  clear hA hN hF i1 i2 ha hn hle hix e1 e2 hcut hk htab hz
  rcases z with z1 | ⟨z1, z2⟩
  all_goals
    go_enter Tryz.func15, Tryz.ntmps15
    go_wp2_with (fail)
    refine (A1.out _).mono ?_
    rintro e w' ⟨rfl, rfl⟩
    go_wp2_with (fail)
    refine (N1.out _).mono ?_
    rintro e w' ⟨rfl, rfl⟩
    go_wp2_with (fail)
    refine (P1.out _).mono ?_
    rintro e w' ⟨rfl, rfl⟩
    go_wp2_with (fail)
    refine (P2.out _).mono ?_
    rintro e w' ⟨rfl, rfl⟩
    go_wp2_with (fail)
    refine F1.out.mono ?_
    rintro e w1 ⟨rfl, hb1⟩
    have HB1 := Lib.hid hb1
    clear hb1
    go_wp2_with (fail)
    refine (C1.out _).mono ?_
    rintro e w2 ⟨rfl, k2, rfl⟩
    go_wp2_with (fail)
    refine (T1.out _).mono ?_
    rintro e w3 ⟨rfl, t, rfl⟩
    go_wp2_with (fail)
    refine (Q1.out _).mono ?_
    rintro e w4 ⟨rfl, rfl⟩
    have HB3 := Lib.hid ((below_drewN HB1.out k2).trans ((Lib.bytesWorld_below _ 5 t).mono (show w.heap.size ≤ (w1.drewN k2).heap.size from HB1.out.size)))
    have hpb : (pointB pre).length ≤ 1000002 := by unfold pointB; split <;> (try rw [List.length_append]) <;> (try simp only [List.length_cons, List.length_nil]) <;> omega
    have hs1 : (⟨(pointB pre).toArray⟩ : ByteArray).size ≤ 1000002 := by rw [Lib.size_eq]; exact hpb
    have hik : (Lib.itoa k).length ≤ 30 := by
      unfold Lib.itoa
      have h1 : ∀ n, n ≤ 1000 → (Lib.decDigits n).length ≤ 25 := fun n hn => by
        rw [Lib.decDigits_length]
        exact nDigits_le (k := 24) (by have : (1000 : Nat) < 10 ^ 25 := by decide
                                       omega)
      split
      · simp only [List.length_cons]; have := h1 k.natAbs (by omega); omega
      · have := h1 k.toNat (by omega); omega
    have hs2 : (⟨(Lib.itoa k).toArray⟩ : ByteArray).size ≤ 30 := by rw [Lib.size_eq]; exact hik
    have hcat : (⟨(pointB pre).toArray⟩ : ByteArray) ++ ⟨#[101]⟩ ++ ⟨(Lib.itoa k).toArray⟩ = ⟨(pointB pre ++ 101 :: Lib.itoa k).toArray⟩ := by
      apply ByteArray.ext
      simp
    have HCAT := Lib.hid hcat
    have hs3 : ((⟨(pointB pre).toArray⟩ : ByteArray) ++ (⟨#[101]⟩ : ByteArray)).size ≤ 1000003 := by
      rw [ByteArray.size_append]
      have : (⟨#[101]⟩ : ByteArray).size = 1 := rfl
      omega
    generalize hS1 : (⟨(pointB pre).toArray⟩ : ByteArray) = S1 at hs1 hs3 HCAT ⊢
    clear hpb hik hcat hS1
    go_wp2_with (fail)
    refine (I1.out _ (tab_below HTAB.out HB3.out)).mono ?_
    rintro e w5 ⟨rfl, k5, os, rfl⟩
    have HB5 := Lib.hid (HB3.out.trans ((Lib.below_grow _ _ HB3.out.size k5 os)))
    generalize hS2 : (⟨(Lib.itoa k).toArray⟩ : ByteArray) = S2 at hs2 HCAT ⊢
    clear hS2
    go_wp2
    go_ret
    refine ⟨?_, HB5.out⟩
    rw [← HCAT.out]
    rfl

end LM
end Go.Proofs.YtcfhiihhfcnfbaaGreatDoor

namespace Go.Proofs.YtcfhiihhfcnfbaaGreatDoor
open Go Go.Shelf Go.RowKit Go.Sort Go.Lib
namespace LM
set_option linter.unusedVariables false

theorem dec_e15 : Lib.decDigits 1000000000000000 = [49, 48, 48, 48, 48, 48, 48, 48, 48, 48, 48, 48, 48, 48, 48, 48] := by
  rw [dec_big (by decide), show 1000000000000000 / 10 = 100000000000000 from by decide, dec_big (by decide), show 100000000000000 / 10 = 10000000000000 from by decide, dec_big (by decide), show 10000000000000 / 10 = 1000000000000 from by decide, dec_big (by decide), show 1000000000000 / 10 = 100000000000 from by decide, dec_big (by decide), show 100000000000 / 10 = 10000000000 from by decide, dec_big (by decide), show 10000000000 / 10 = 1000000000 from by decide, dec_big (by decide), show 1000000000 / 10 = 100000000 from by decide, dec_big (by decide), show 100000000 / 10 = 10000000 from by decide, dec_big (by decide), show 10000000 / 10 = 1000000 from by decide, dec_big (by decide), show 1000000 / 10 = 100000 from by decide, dec_big (by decide), show 100000 / 10 = 10000 from by decide, dec_big (by decide), show 10000 / 10 = 1000 from by decide, dec_big (by decide), show 1000 / 10 = 100 from by decide, dec_big (by decide), show 100 / 10 = 10 from by decide, dec_big (by decide), show 10 / 10 = 1 from by decide, Lib.decDigits_one (by decide)]
  rfl
theorem n_e15 : Lib.nDigits 1000000000000000 = 16 := by rw [← Lib.decDigits_length, dec_e15]; rfl
theorem nzd_e15 : nzd (Lib.decDigits 1000000000000000) = 1 := by rw [dec_e15]; decide

theorem short_100 : shortT 14411518807585587200 (-57) 14 (14411518807585587200 - 1024) (14411518807585587200 + 1024) (0 : Nat) = (1000000000000000, -13) := by kernel_rfl
theorem short_e21 : shortT 15625000000000000000 6 (-5) (15625000000000000000 - 1024) (15625000000000000000 + 1024) (0 : Nat) = (1000000000000000, 6) := by kernel_rfl
theorem short_m4 : shortT 15111572745182865408 (-77) 20 (15111572745182865408 - 1024) (15111572745182865408 + 1024) (1 : Nat) = (1000000000000000, -19) := by kernel_rfl

theorem call_100 (w : World) (hv : FV w) : Calls Tryz.prog 259 #[.int .u64 14411518807585587200, .int .i64 (-57)] w fun r w' => r = .returned (.tuple #[.int .u64 1000000000000000, .int .i64 (-13)]) ∧ Below w.heap.size w w' := by
  have h := short_mid 14411518807585587200 (-57) 14 0 w hv.pow hv.size.2.2.2 (by decide) (by decide) (by decide) (by decide) (by decide) (by decide) (by decide) (by decide) (by decide) (by decide)
  rw [short_100] at h
  exact h
theorem call_e21 (w : World) (hv : FV w) : Calls Tryz.prog 259 #[.int .u64 15625000000000000000, .int .i64 6] w fun r w' => r = .returned (.tuple #[.int .u64 1000000000000000, .int .i64 6]) ∧ Below w.heap.size w w' := by
  have h := short_mid 15625000000000000000 6 (-5) 0 w hv.pow hv.size.2.2.2 (by decide) (by decide) (by decide) (by decide) (by decide) (by decide) (by decide) (by decide) (by decide) (by decide)
  rw [short_e21] at h
  exact h
theorem call_m4 (w : World) (hv : FV w) : Calls Tryz.prog 259 #[.int .u64 15111572745182865408, .int .i64 (-77)] w fun r w' => r = .returned (.tuple #[.int .u64 1000000000000000, .int .i64 (-19)]) ∧ Below w.heap.size w w' := by
  have h := short_mid 15111572745182865408 (-77) 20 1 w hv.pow hv.size.2.2.2 (by decide) (by decide) (by decide) (by decide) (by decide) (by decide) (by decide) (by decide) (by decide) (by decide)
  rw [short_m4] at h
  exact h


theorem ftoa_100 (w : World) (hv : FV w) : ∀ v w1, OB w.heap.size w 0 [] v [] w1 → Calls Tryz.prog 182 #[v, .float .f64 4636737291354636288, .int .u8 (102 : Nat), .int .i64 (-1)] w1 fun r w' => ∃ v' g ds, r = .returned v' ∧ OB w.heap.size w g ds v' [49, 48, 48] w' := fun v w1 hob => by
  have hv1 := hv.below hob.2.1
  have h := ftoaF_any 4636737291354636288 false 1029 2533274790395904 7036874417766400 53 11 14411518807585587200 (-57) (-13) 1000000000000000 w.heap.size w v w1 (by decide) hob (by decide) (by decide) (by decide) (by decide) (by decide) (by decide) (by decide) (by decide) (by decide) (by decide) (by decide)
    (fun W _ hW => call_100 W (hv1.below hW)) hv1.tab (by decide) (by decide) (by decide) (by rw [nzd_e15]; decide) (by rw [n_e15]; decide)
  rw [nzd_e15, n_e15, dec_e15] at h
  exact h.mono fun r w' ⟨v', g, h1, h2⟩ => ⟨v', g, _, h1, h2⟩

theorem ftoa_e21 (w : World) (hv : FV w) : ∀ v w1, OB w.heap.size w 0 [] v [] w1 → Calls Tryz.prog 182 #[v, .float .f64 4921056587992461136, .int .u8 (101 : Nat), .int .i64 (-1)] w1 fun r w' => ∃ v' g ds, r = .returned v' ∧ OB w.heap.size w g ds v' [49, 101, 43, 50, 49] w' := fun v w1 hob => by
  have hv1 := hv.below hob.2.1
  have h := ftoaE_any 4921056587992461136 false 1092 3125794903879504 7629394531250000 53 11 15625000000000000000 (6) (6) 1000000000000000 w.heap.size w v w1 (by decide) hob (by decide) (by decide) (by decide) (by decide) (by decide) (by decide) (by decide) (by decide) (by decide) (by decide) (by decide)
    (fun W _ hW => call_e21 W (hv1.below hW)) hv1.tab (by decide) (by decide) (by decide) (by rw [nzd_e15]; decide) (by rw [n_e15]; decide)
  rw [nzd_e15, n_e15, dec_e15] at h
  exact h.mono fun r w' ⟨v', g, h1, h2⟩ => ⟨v', g, _, h1, h2⟩

theorem ftoa_m4 (w : World) (hv : FV w) : ∀ v w1, OB w.heap.size w 0 [] v [] w1 → Calls Tryz.prog 182 #[v, .float .f64 4547007122018943789, .int .u8 (101 : Nat), .int .i64 (-1)] w1 fun r w' => ∃ v' g ds, r = .returned v' ∧ OB w.heap.size w g ds v' [49, 101, 45, 48, 52] w' := fun v w1 hob => by
  have hv1 := hv.below hob.2.1
  have h := ftoaE_any 4547007122018943789 false 1009 2875098002113325 7378697629483821 53 11 15111572745182865408 (-77) (-19) 1000000000000000 w.heap.size w v w1 (by decide) hob (by decide) (by decide) (by decide) (by decide) (by decide) (by decide) (by decide) (by decide) (by decide) (by decide) (by decide)
    (fun W _ hW => call_m4 W (hv1.below hW)) hv1.tab (by decide) (by decide) (by decide) (by rw [nzd_e15]; decide) (by rw [n_e15]; decide)
  rw [nzd_e15, n_e15, dec_e15] at h
  exact h.mono fun r w' ⟨v', g, h1, h2⟩ => ⟨v', g, _, h1, h2⟩

theorem text_100 (w : World) (hv : FV w) : Calls Tryz.prog 15 #[.float .f64 4636737291354636288] w fun e w' => e = .returned (.string ⟨#[49, 48, 48, 46, 48]⟩) ∧ Below w.heap.size w w' :=
  flotext_f 4636737291354636288 4636737291354636288 [49, 48, 48] w (by decide) (by decide) (by decide) (by decide) (by decide) (by decide) (by decide) (by decide) (ftoa_100 w hv)
theorem text_e21 (w : World) (hv : FV w) : Calls Tryz.prog 15 #[.float .f64 4921056587992461136] w fun e w' => e = .returned (.string ⟨#[49, 46, 48, 101, 50, 49]⟩) ∧ Below w.heap.size w w' := by
  have h := flotext_e 4921056587992461136 4921056587992461136 [49, 101, 43, 50, 49] [49] [43, 50, 49] 21 w (by decide) (by decide) (by decide) (by decide) (by decide) (by decide) (by decide) (by decide) rfl (by decide) (by decide) (by decide) (by decide) hv.tab (ftoa_e21 w hv)
  rw [show Lib.itoa 21 = [50, 49] from by
    unfold Lib.itoa
    rw [if_neg (by decide), show (21 : Int).toNat = 21 from rfl, dec_big (by decide), show 21 / 10 = 2 from by decide, Lib.decDigits_one (by decide)]
    rfl] at h
  exact h
theorem text_m4 (w : World) (hv : FV w) : Calls Tryz.prog 15 #[.float .f64 4547007122018943789] w fun e w' => e = .returned (.string ⟨#[49, 46, 48, 101, 45, 52]⟩) ∧ Below w.heap.size w w' := by
  have h := flotext_e 4547007122018943789 4547007122018943789 [49, 101, 45, 48, 52] [49] [45, 48, 52] (-4) w (by decide) (by decide) (by decide) (by decide) (by decide) (by decide) (by decide) (by decide) rfl (by decide) (by decide) (by decide) (by decide) hv.tab (ftoa_m4 w hv)
  rw [show Lib.itoa (-4) = [45, 52] from by
    unfold Lib.itoa
    rw [if_pos (by decide), show (-4 : Int).natAbs = 4 from rfl, Lib.decDigits_one (by decide)]
    rfl] at h
  exact h

end LM
end Go.Proofs.YtcfhiihhfcnfbaaGreatDoor
