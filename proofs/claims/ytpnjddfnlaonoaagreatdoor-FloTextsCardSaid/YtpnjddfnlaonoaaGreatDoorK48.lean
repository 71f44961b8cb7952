/- Walks of package flo: cutAtE, isNumeral and Parse of any text. -/
import Derived.Test.YtpnjddfnlaonoaaGreatDoorK44
import Derived.Test.YtpnjddfnlaonoaaGreatDoorK23
namespace Go.Proofs.YtpnjddfnlaonoaaGreatDoor
open Go Go.Shelf Go.RowKit Go.Sort Go.Lib
namespace LM
set_option linter.unusedVariables false

set_option maxRecDepth 100000 in
set_option maxHeartbeats 2000000 in
theorem cutE_all (s : ByteArray) (w : World) (hs : s.size ≤ 1000) :
    Calls Tryz.prog 91 #[.string s] w fun e w' => (∃ t1 t2, e = .returned (.tuple #[.string t1, .string t2, .bool (cutL isE s.data.toList).2.2]) ∧ t1.data.toList = (cutL isE s.data.toList).1 ∧ t2.data.toList = (cutL isE s.data.toList).2.1) ∧ Below w.heap.size w w' := by
  have hI := Lib.hid fun W => iany_all s W (by omega)
  have hc := cutL_any [101, 69] s.data.toList
  rcases hc with ⟨h1, h2⟩ | ⟨n, h1, h2, h3⟩
  · have I1 := hI.out
    rw [h1] at I1
    have II := Lib.hid I1
    have H2 := Lib.hid (show cutL isE s.data.toList = (s.data.toList, [], false) from h2)
    clear hI I1 h1 h2
    go_enter Tryz.func91, Tryz.ntmps91
    go_wp2_with (fail)
    refine (II.out _).mono ?_
    rintro e w' ⟨rfl, hb⟩
    have HB := Lib.hid hb
    clear hb
    go_wp2_with (fail)
    go_returns
    rw [H2.out]
    exact ⟨⟨s, ⟨#[]⟩, rfl, rfl, rfl⟩, HB.out⟩
  · have I1 := hI.out
    rw [h1] at I1
    have II := Lib.hid I1
    have H2 := Lib.hid (show cutL isE s.data.toList = (s.data.toList.take n, s.data.toList.drop (n + 1), true) from h3)
    have hn : n < s.size := by rw [Lib.size_eq]; exact h2
    clear hI I1 h1 h2 h3
    go_enter Tryz.func91, Tryz.ntmps91
    go_wp2_with (fail)
    refine (II.out _).mono ?_
    rintro e w' ⟨rfl, hb⟩
    have HB := Lib.hid hb
    clear hb
    go_wp2_with (fail)
    go_quiet (fail)
    go_wp2_with (fail)
    go_returns
    rw [H2.out]
    refine ⟨⟨_, _, rfl, ?_, ?_⟩, below_drewN HB.out _⟩
    · rw [Lib.extract_data]; simp
    · rw [Lib.extract_data]
      rw [List.take_of_length_le]
      rw [List.length_drop, ← Lib.size_eq]
      exact Nat.le_refl _


set_option maxRecDepth 100000 in
set_option maxHeartbeats 4000000 in
theorem isnum_all (s : ByteArray) (w : World) (hs : s.size ≤ 1000) :
    Calls Tryz.prog 43 #[.string s] w fun e w' => e = .returned (.bool (numL s.data.toList)) ∧ Below w.heap.size w w' := by
  obtain ⟨R, hR⟩ : ∃ R, numL s.data.toList = R := ⟨_, rfl⟩
  rw [hR]
  have HR := Lib.hid hR
  have U1 := Lib.hid fun W => unsigned_any s W (by omega)
  clear hR
  go_enter Tryz.func43, Tryz.ntmps43
  go_wp2_with (fail)
  refine (U1.out _).mono ?_
  rintro e w1 ⟨⟨t, rfl, ht, hts⟩, k1, rfl⟩
  have CE := Lib.hid fun W => cutE_all t W (by omega)
  have HT := Lib.hid ht
  clear ht
  go_wp2_with (fail)
  refine (CE.out _).mono ?_
  rintro e w2 ⟨⟨t1, t2, rfl, h1, h2⟩, hb2⟩
  have HB2 := Lib.hid ((below_drewN (Below.refl _ w) k1).trans hb2)
  have hl := cutL_len isE t.data.toList
  rw [← h1, ← h2, ← Lib.size_eq, ← Lib.size_eq, ← Lib.size_eq] at hl
  obtain ⟨hl1, hl2⟩ := hl
  rw [HT.out] at h1 h2
  have H1 := Lib.hid h1
  have H2 := Lib.hid h2
  have SC := Lib.hid fun W => scut_any t1 W (by omega)
  rw [HT.out]
  obtain ⟨q1, hq1⟩ : ∃ q, (cutL isE (unsigB s.data.toList)).2.2 = q := ⟨_, rfl⟩
  rw [hq1]
  have HQ1 := Lib.hid hq1
  clear hb2 h1 h2 hq1
  go_wp2_with (fail)
  refine (SC.out _).mono ?_
  rintro e w3 ⟨⟨t3, t4, rfl, h3, h4⟩, hb3⟩
  have HB3 := Lib.hid (HB2.out.trans (hb3.mono HB2.out.size))
  have hl3 := cutL_len isDot t1.data.toList
  rw [← h3, ← h4, ← Lib.size_eq, ← Lib.size_eq, ← Lib.size_eq] at hl3
  obtain ⟨hl3, hl4⟩ := hl3
  rw [H1.out] at h3 h4 ⊢
  have D3 := Lib.hid fun W => areDigits_any t3 W (by omega)
  have D4 := Lib.hid fun W => areDigits_any t4 W (by omega)
  have U2 := Lib.hid fun W => unsigned_any t2 W (by omega)
  rw [h3] at D3
  rw [h4] at D4
  rw [H2.out] at U2
  obtain ⟨q2, hq2⟩ : ∃ q, (cutL isDot (cutL isE (unsigB s.data.toList)).1).2.2 = q := ⟨_, rfl⟩
  obtain ⟨v3, hv3⟩ : ∃ q, digB (cutL isDot (cutL isE (unsigB s.data.toList)).1).1 = q := ⟨_, rfl⟩
  obtain ⟨v4, hv4⟩ : ∃ q, digB (cutL isDot (cutL isE (unsigB s.data.toList)).1).2.1 = q := ⟨_, rfl⟩
  have hz3 : (cutL isDot (cutL isE (unsigB s.data.toList)).1).1.length = t3.size := by rw [← h3, Lib.size_eq]
  have hz4 : (cutL isDot (cutL isE (unsigB s.data.toList)).1).2.1.length = t4.size := by rw [← h4, Lib.size_eq]
  rw [hq2]
  rw [hv3] at D3
  rw [hv4] at D4
  obtain ⟨ex, hex⟩ : ∃ e, unsigB (cutL isE (unsigB s.data.toList)).2.1 = e := ⟨_, rfl⟩
  rw [hex] at U2
  have HNL : Hid (numL s.data.toList = ((q2 || q1) && !((t3.size + t4.size) == 0) && v3 && v4 && (!q1 || (decide (1 ≤ ex.length) && decide (ex.length ≤ 4) && digB ex)))) := Lib.hid (by
    unfold numL
    simp only [HQ1.out, hq2, hv3, hv4, hz3, hz4, hex])
  rw [HR.out] at HNL
  clear hb3 h3 h4 hq2 hv3 hv4 hz3 hz4 hex H1 H2 HT HQ1 CE SC U1 HR
  by_cases hq : q1 = false ∧ q2 = false
  · obtain ⟨rfl, rfl⟩ := hq
    go_wp2_with (fail)
    go_ret
    exact ⟨by rw [HNL.out]; rfl, HB3.out⟩
  · have hqq : (q2 || q1) = true := by cases q1 <;> cases q2 <;> simp at hq ⊢
    by_cases hz : t3.size + t4.size = 0
    · have dz : ((t3.size : Int) + (t4.size : Int) == 0) = true := by simpa using (by omega : (t3.size : Int) + (t4.size : Int) = 0)
      have HE := Lib.hid (show R = false by rw [HNL.out, hz]; cases q1 <;> cases q2 <;> rfl)
      clear hz
      cases q1 <;> cases q2
      · exact absurd ⟨rfl, rfl⟩ hq
      all_goals
        clear hq hqq
        go_wp2_with (fail)
        go_ret
        exact ⟨by rw [HE.out]; rfl, HB3.out⟩
    · have dz : ((t3.size : Int) + (t4.size : Int) == 0) = false := by simpa using (by omega : ¬ (t3.size : Int) + (t4.size : Int) = 0)
      have dzn : ((t3.size + t4.size) == 0) = false := by simpa using hz
      rw [dzn] at HNL
      clear hz dzn
      cases v3
      · have HE := Lib.hid (show R = false by rw [HNL.out]; cases q1 <;> cases q2 <;> rfl)
        cases q1 <;> cases q2
        · exact absurd ⟨rfl, rfl⟩ hq
        all_goals
          clear hq hqq
          go_wp2_with (fail)
          refine (D3.out _).mono ?_
          rintro e w4 ⟨rfl, rfl⟩
          go_wp2_with (fail)
          go_ret
          exact ⟨by rw [HE.out]; rfl, HB3.out⟩
      · cases v4
        · have HE := Lib.hid (show R = false by rw [HNL.out]; cases q1 <;> cases q2 <;> rfl)
          cases q1 <;> cases q2
          · exact absurd ⟨rfl, rfl⟩ hq
          all_goals
            clear hq hqq
            go_wp2_with (fail)
            refine (D3.out _).mono ?_
            rintro e w4 ⟨rfl, rfl⟩
            go_wp2_with (fail)
            refine (D4.out _).mono ?_
            rintro e w4 ⟨rfl, rfl⟩
            go_wp2_with (fail)
            go_ret
            exact ⟨by rw [HE.out]; rfl, HB3.out⟩
        · cases q1
          · have HE := Lib.hid (show R = true by rw [HNL.out, hqq]; rfl)
            cases q2
            · exact absurd ⟨rfl, rfl⟩ hq
            clear hq hqq
            go_wp2_with (fail)
            refine (D3.out _).mono ?_
            rintro e w4 ⟨rfl, rfl⟩
            go_wp2_with (fail)
            refine (D4.out _).mono ?_
            rintro e w4 ⟨rfl, rfl⟩
            go_wp2_with (fail)
            go_ret
            exact ⟨by rw [HE.out]; rfl, HB3.out⟩
          · have HE := Lib.hid (show R = (decide (1 ≤ ex.length) && decide (ex.length ≤ 4) && digB ex) by rw [HNL.out, hqq]; simp)
            clear hq hqq HNL
            cases q2
            all_goals
              go_wp2_with (fail)
              refine (D3.out _).mono ?_
              rintro e w4 ⟨rfl, rfl⟩
              go_wp2_with (fail)
              refine (D4.out _).mono ?_
              rintro e w4 ⟨rfl, rfl⟩
              go_wp2_with (fail)
              refine (U2.out _).mono ?_
              rintro e w4 ⟨⟨t5, rfl, h5, hl5⟩, k5, rfl⟩
              have D5 := Lib.hid fun W => areDigits_any t5 W (by omega)
              rw [h5] at D5
              have hz5 : ex.length = t5.size := by rw [← h5, Lib.size_eq]
              have HE2 := Lib.hid (show R = (decide (1 ≤ t5.size) && decide (t5.size ≤ 4) && digB ex) by rw [HE.out, hz5])
              obtain ⟨v5, hv5⟩ : ∃ q, digB ex = q := ⟨_, rfl⟩
              rw [hv5] at D5 HE2
              clear h5 hz5 hv5
              by_cases h15 : 1 ≤ t5.size
              · by_cases h45 : t5.size ≤ 4
                · have f1 : decide (1 ≤ t5.size) = true := decide_eq_true h15
                  have f2 : decide (t5.size ≤ 4) = true := decide_eq_true h45
                  have HE3 := Lib.hid (show R = v5 by rw [HE2.out, f1, f2]; rfl)
                  go_wp2_with (refine (D5.out _).mono ?_; rintro e w4 ⟨rfl, rfl⟩)
                  go_ret
                  exact ⟨by rw [HE3.out]; rfl, below_drewN HB3.out _⟩
                · have f1 : decide (1 ≤ t5.size) = true := decide_eq_true h15
                  have f2 : decide (t5.size ≤ 4) = false := decide_eq_false h45
                  have HE3 := Lib.hid (show R = false by rw [HE2.out, f1, f2]; rfl)
                  go_wp2_with (fail)
                  go_ret
                  exact ⟨by rw [HE3.out]; rfl, below_drewN HB3.out _⟩
              · have f1 : decide (1 ≤ t5.size) = false := decide_eq_false h15
                have HE3 := Lib.hid (show R = false by rw [HE2.out, f1]; rfl)
                go_wp2_with (fail)
                go_ret
                exact ⟨by rw [HE3.out]; rfl, below_drewN HB3.out _⟩


set_option maxRecDepth 100000 in
set_option maxHeartbeats 4000000 in
theorem fparse_all (s : ByteArray) (f : Nat) (hs : s.size ≤ 1000) (hf : ReadsF s f) (w : World) (hv : FV w) (hx : FX w) (hr : RngCell w) :
    Calls Tryz.prog 9 #[.string s] w fun e w' => e = .returned (.tuple #[.float .f64 (parV s.data.toList f).1, .int .i64 (parV s.data.toList f).2]) ∧ Below w.heap.size w w' := by
  have I1 := Lib.hid inf_up
  have I2 := Lib.hid inf_down
  have hl := Go.ByteArray.toList_eq s
  have hz : s.data.toList.length = s.size := by rw [Lib.size_eq]
  obtain ⟨V, hV⟩ : ∃ V, parV s.data.toList f = V := ⟨_, rfl⟩
  rw [hV]
  by_cases h1 : s.data.toList = nmNan
  · have HV := Lib.hid (show V = (9221120237041090561, 0) by rw [← hV]; unfold parV; rw [if_pos h1])
    have c1 : (s.toList == [43, 110, 97, 110, 46, 48]) = true := by rw [hl, h1]; rfl
    have f1 : ∀ W, (callFunc 11 #[.int .u64 9221120237041090561]).run Tryz.prog W = .ok (.value (.float .f64 9221120237041090561)) W := fun W => run_mfrom 9221120237041090561 W
    clear hV hf hl hz h1 hv hx hr
    go_enter Tryz.func9, Tryz.ntmps9
    go_wp2_with (fail)
    go_returns
    rw [HV.out]
    exact ⟨rfl, Below.refl _ _⟩
  · have c1 : (s.toList == [43, 110, 97, 110, 46, 48]) = false := by rw [hl]; simpa using h1
    by_cases h2 : s.data.toList = nmInf
    · have HV := Lib.hid (show V = (9218868437227405312, 0) by rw [← hV]; unfold parV; rw [if_neg h1, if_pos h2])
      have c2 : (s.toList == [43, 105, 110, 102, 46, 48]) = true := by rw [hl, h2]; rfl
      clear hV hf hl hz h1 h2 hv hx hr
      go_enter Tryz.func9, Tryz.ntmps9
      go_wp2_with (fail)
      refine (I1.out _).mono ?_
      rintro e w' ⟨rfl, rfl⟩
      go_wp2_with (fail)
      go_returns
      rw [HV.out]
      exact ⟨rfl, Below.refl _ _⟩
    · have c2 : (s.toList == [43, 105, 110, 102, 46, 48]) = false := by rw [hl]; simpa using h2
      by_cases h3 : s.data.toList = nmMin
      · have HV := Lib.hid (show V = (18442240474082181120, 0) by rw [← hV]; unfold parV; rw [if_neg h1, if_neg h2, if_pos h3])
        have c3 : (s.toList == [45, 105, 110, 102, 46, 48]) = true := by rw [hl, h3]; rfl
        clear hV hf hl hz h1 h2 h3 hv hx hr
        go_enter Tryz.func9, Tryz.ntmps9
        go_wp2_with (fail)
        refine (I2.out _).mono ?_
        rintro e w' ⟨rfl, rfl⟩
        go_wp2_with (fail)
        go_returns
        rw [HV.out]
        exact ⟨rfl, Below.refl _ _⟩
      · have c3 : (s.toList == [45, 105, 110, 102, 46, 48]) = false := by rw [hl]; simpa using h3
        have HV0 := Lib.hid (show V = if 700 < s.size ∨ numL s.data.toList = false then (0, 31) else (f, 0) by rw [← hV]; unfold parV; rw [if_neg h1, if_neg h2, if_neg h3, hz])
        have N1 := Lib.hid (isnum_all s w hs)
        by_cases h7 : 700 < s.size
        · have HV := Lib.hid (show V = (0, 31) by rw [HV0.out, if_pos (.inl h7)])
          have d7 : decide (700 < s.size) = true := decide_eq_true h7
          clear hV hf hl hz h1 h2 h3 hv hx hr HV0
          go_enter Tryz.func9, Tryz.ntmps9
          go_wp2_with (fail)
          go_returns
          rw [HV.out]
          exact ⟨rfl, Below.refl _ _⟩
        · have d7 : decide (700 < s.size) = false := decide_eq_false h7
          obtain ⟨q, hq⟩ : ∃ q, numL s.data.toList = q := ⟨_, rfl⟩
          rw [hq] at N1 HV0
          have PF := Lib.hid fun (h : q = true) => hf (hq.trans h) (by omega)
          have FVH := Lib.hid hv
          have FXH := Lib.hid hx
          have RH := Lib.hid hr
          cases q
          · have HV := Lib.hid (show V = (0, 31) by rw [HV0.out, if_pos (.inr rfl)])
            clear hV hf hl hz h1 h2 h3 hv hx hr HV0 hq
            go_enter Tryz.func9, Tryz.ntmps9
            go_wp2_with (fail)
            refine N1.out.mono ?_
            rintro e w' ⟨rfl, hb⟩
            have HB := Lib.hid hb
            clear hb
            go_wp2_with (fail)
            go_returns
            rw [HV.out]
            exact ⟨rfl, HB.out⟩
          · have HV := Lib.hid (show V = (f, 0) by rw [HV0.out, if_neg (by simp; omega)])
            clear hV hf hl hz h1 h2 h3 hv hx hr HV0 hq
            go_enter Tryz.func9, Tryz.ntmps9
            go_wp2_with (fail)
            refine N1.out.mono ?_
            rintro e w' ⟨rfl, hb⟩
            have HB := Lib.hid hb
            clear hb
            go_wp2_with (fail)
            refine (PF.out (by trivial) _ (FVH.out.below HB.out) (FXH.out.below HB.out) (RH.out.below HB.out)).mono ?_
            rintro e w2 ⟨⟨er, rfl⟩, hb2⟩
            have HB2 := Lib.hid (HB.out.trans (hb2.mono HB.out.size))
            clear hb2
            go_wp2_with (fail)
            go_returns
            rw [HV.out]
            exact ⟨rfl, HB2.out⟩


end LM
end Go.Proofs.YtpnjddfnlaonoaaGreatDoor
