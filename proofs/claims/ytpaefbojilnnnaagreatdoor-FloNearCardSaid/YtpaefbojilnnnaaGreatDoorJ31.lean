/- The walk of exact's Pow: under way. -/
import Derived.Test.YtpaefbojilnnnaaGreatDoorJ29
namespace Go.Proofs.YtpaefbojilnnnaaGreatDoor
open Go.RowKit
namespace LM
set_option linter.unusedVariables false

theorem intV_zero (w : World) : IntV w (.agg #[.bool false, .slice none 0 0]) 0 := ⟨none, 0, [], rfl, by decide, by decide, Rd.nil, can_nil, rfl⟩

set_option maxRecDepth 100000 in
set_option maxHeartbeats 40000000 in
theorem epow_go (s t : Bool) (A B : Option Addr) (n c m d : Nat) (a : Int) (k : Nat) (w : World) (ha : IntV w (.agg #[.bool s, .slice A n c]) a) (hn : IntV w (.agg #[.bool t, .slice B m d]) (k : Int)) (na : ¬ BigI a) (hk : k ≤ 1000) :
    Calls Tryz.prog 74 #[.agg #[.bool s, .slice A n c], .agg #[.bool t, .slice B m d]] w (PowE w (powI k 1 a)) := by
  obtain ⟨hb0, x0, y0, z0⟩ := new3 w s t A B n c m d
  have HB0 := Lib.hid hb0
  have XS0 := Lib.hid (((Bxs.nil.cons z0).cons y0).cons x0)
  have VA0 := Lib.hid (ha.keep hb0)
  have C1 := Lib.hid (esmall_int (hn.keep hb0))
  have NA := Lib.hid na
  have d1 : decide ((k : Int) < 0) = false := decide_eq_false (by omega)
  have d2 : decide (1000 < (k : Int)) = false := decide_eq_false (by omega)
  have d3 : decide (1000 < k) = false := decide_eq_false (by omega)
  have HOF : Hid (∀ W, Calls Tryz.prog 72 #[.int .i64 1] W (RetI W 1)) := Lib.hid (eof_int 1 (by decide) (by decide))
  clear hb0 x0 y0 z0 ha hn na
  go_enter Tryz.func74, Tryz.ntmps74
  go_wp2_with fail
  refine C1.out.mono ?_
  rintro e w1 ⟨he1, hb1⟩
  obtain rfl := he1.inn' (by omega) (by omega)
  have XS1 := Lib.hid (XS0.out.below hb1)
  have HB1 := Lib.hid (HB0.out.trans (hb1.mono HB0.out.size))
  have VA1 := Lib.hid (VA0.out.keep hb1)
  obtain ⟨q0, q1, -, -, ql⟩ := XS1.out.hd.facts
  have N1 := Lib.hid (show w.heap.size + 1 + 1 < w1.heap.size from XS1.out.tl.tl.hd.lt)
  clear he1 hb1
  go_upto_region 4 with (fail)
  go_cut [8, 9] (fun p q wx => ∃ g8 g9, p = .pointer (some ⟨g8, 0, none⟩) ∧ q = .pointer (some ⟨g9, 0, none⟩) ∧ PwS w wx g8 g9 1 a)
  case first =>
    go_region_with (first
      | (go_at_call 72; (with_reducible refine (HOF.out w1.drew).mono ?_); intro e w2 hz2; obtain ⟨s2, A2, n2, c2, rfl, hv2, hb2⟩ := hz2.gen; have XS2 := Lib.hid (Bxs.below (XS1.out.drew) hb2); have Q2 := Lib.hid (show Qs w w2 _ (.agg #[.bool s2, .slice A2 n2 c2]) (.agg #[.bool s, .slice A n c]) 1 a from ⟨(Bxs.nil.cons XS2.out.tl.tl.hd), hv2, IntV.keep (VA1.out.drew) hb2, bel_trans (B := w.heap.size) HB1.out.drew hb2⟩); obtain ⟨r0, r1, -, -, rl⟩ := XS2.out.hd.facts; have HLE := Lib.hid ((show w1.heap.size ≤ w2.heap.size from hb2.size)); clear hz2 hv2 hb2)
      | (go_at_call 72; (with_reducible refine (HOF.out (w1.alloc (.cells #[.bool _, .slice _ _ _] 38)).drew).mono ?_); intro e w2 hz2; obtain ⟨s2, A2, n2, c2, rfl, hv2, hb2⟩ := hz2.gen; have XS2 := Lib.hid (Bxs.below ((XS1.out.alloc _).drew) hb2); have Y1 := Lib.hid (one_new hb2); obtain ⟨f0, f1, f2, f3, f4⟩ := Y1.out.facts; have Q2 := Lib.hid (show Qs w w2 _ (.agg #[.bool s2, .slice A2 n2 c2]) (.agg #[.bool s, .slice A n c]) 1 a from ⟨((Bxs.nil.cons XS2.out.tl.tl.hd).cons Y1.out), hv2, IntV.keep ((VA1.out.alloc _).drew) hb2, bel_trans (B := w.heap.size) (bel1 HB1.out _) hb2⟩); obtain ⟨r0, r1, -, -, rl⟩ := XS2.out.hd.facts; have HLE := Lib.hid (le1 hb2); clear hz2 hv2 hb2)
      | (go_at_call 72; (with_reducible refine (HOF.out ((w1.alloc (.cells #[.bool _, .slice _ _ _] 38)).alloc (.cells #[.bool _, .slice _ _ _] 38)).drew).mono ?_); intro e w2 hz2; obtain ⟨s2, A2, n2, c2, rfl, hv2, hb2⟩ := hz2.gen; have XS2 := Lib.hid (Bxs.below (((XS1.out.alloc _).alloc _).drew) hb2); have Y1 := Lib.hid (two_fst hb2); obtain ⟨f0, f1, f2, f3, f4⟩ := Y1.out.facts; have Y2 := Lib.hid (two_snd hb2); obtain ⟨g0, g1, g2, g3, g4⟩ := Y2.out.facts; have Q2 := Lib.hid (show Qs w w2 _ (.agg #[.bool s2, .slice A2 n2 c2]) (.agg #[.bool s, .slice A n c]) 1 a from ⟨(((Bxs.nil.cons XS2.out.tl.tl.hd).cons Y1.out).cons Y2.out), hv2, IntV.keep (((VA1.out.alloc _).alloc _).drew) hb2, bel_trans (B := w.heap.size) (bel2 HB1.out _ _) hb2⟩); obtain ⟨r0, r1, -, -, rl⟩ := XS2.out.hd.facts; have HLE := Lib.hid (le2 hb2); clear hz2 hv2 hb2))
    all_goals (go_wp2_with fail; go_meet)
    all_goals (refine ⟨_, _, rfl, rfl, ?_⟩)
    all_goals first
      | with_reducible exact pw_fin0 Q2.out N1.out HLE.out
      | with_reducible exact pw_fin1 Q2.out N1.out HLE.out
      | with_reducible exact pw_fin2 Q2.out N1.out HLE.out
      | with_reducible exact pw_fin3 Q2.out N1.out HLE.out
      | with_reducible exact pw_fin4 Q2.out N1.out HLE.out
      | with_reducible exact pw_fin5 Q2.out N1.out HLE.out
      | with_reducible exact pw_fin6 Q2.out N1.out HLE.out
      | with_reducible exact pw_fin7 Q2.out N1.out HLE.out
      | with_reducible exact pw_fin8 Q2.out N1.out HLE.out
      | with_reducible exact pw_fin9 Q2.out N1.out HLE.out
      | with_reducible exact pw_fin10 Q2.out N1.out HLE.out
  case rest =>
    obtain ⟨g8, g9, rfl, rfl, hst⟩ := hcut
    have HST := Lib.hid hst
    clear hst q0 q1 ql XS0 HB0 VA0 C1 XS1 HB1 VA1 N1 HOF d1 d2 d3
    go_wp2_with fail
    go_loopg [6] k (fun kk x6 wr => x6 = .int .i64 (kk : Int) ∧ kk ≤ 1000 ∧ ∃ p a', PwS w wr g8 g9 p a' ∧ ¬ BigI p ∧ ¬ BigI a' ∧ powI kk p a' = powI k 1 a)
    case atStart => exact ⟨rfl, hk, 1, a, HST.out, small_not_big (by decide), NA.out, rfl⟩
    case round =>
      obtain ⟨rfl, hkk, p, a', hst, np, na, hpow⟩ := hrel
      clear HST
      have HP := Lib.hid hpow
      have NP := Lib.hid np
      have NA' := Lib.hid na
      obtain ⟨s8, A8, n8, c8, s9, A9, n9, c9, hg8, hg9, hgn, hgr8, hgr9, hx8, hx9, hxr, hv8, hv9, hb⟩ := hst
      have HX8 := Lib.hid hx8
      have HX9 := Lib.hid hx9
      have HXR := Lib.hid hxr
      have HV8 := Lib.hid hv8
      have HV9 := Lib.hid hv9
      have HB := Lib.hid hb
      clear hpow np na hx8 hx9 hxr hv8 hv9 hb
      by_cases ho : gk % 2 = 1
      · have e1 : ((gk : Int) % 2 == 1) = true := by rw [beq_iff_eq]; omega
        have HO := Lib.hid ho
        have M1 := Lib.hid (emul_int HV8.out HV9.out NP.out NA'.out)
        obtain ⟨x80, x81, x82, x83, x84⟩ := HX8.out.facts
        obtain ⟨x90, x91, x92, x93, x94⟩ := HX9.out.facts
        clear ho
        go_wp2_with fail
        refine M1.out.mono ?_
        rintro e w2 ⟨s2, A2, n2, c2, er2, rfl, hcase2, hb2⟩
        have Y8 := Lib.hid (HX8.out.below hb2)
        have Y9 := Lib.hid (HX9.out.below hb2)
        have YR := Lib.hid (HXR.out.below hb2)
        have HB2 := Lib.hid (bel_trans (B := w.heap.size) HB.out hb2)
        have VA2 := Lib.hid (HV9.out.keep hb2)
        clear x80 x81 x82 x83 x84 x90 x91 x92 x93 x94 hb2
        obtain ⟨x80, x81, x82, x83, x84⟩ := Y8.out.facts
        obtain ⟨W3, hW3, Z8, hb3, hv3, -, ho3, -⟩ := stored_world Y8.out HB2.out (by omega) s2 A2 n2 c2
        have X93 := Lib.hid (ho3 _ _ _ _ _ (by omega) Y9.out)
        have XR3 := Lib.hid (ho3 _ _ _ _ _ (by omega) YR.out)
        have X83 := Lib.hid Z8
        have HB3 := Lib.hid hb3
        have HVK := Lib.hid hv3
        have VA3 := Lib.hid (HVK.out _ _ VA2.out)
        clear hb3 hv3 ho3 Z8
        rcases hcase2 with ⟨hbig, rfl, hv2⟩ | ⟨hnb, rfl, hv2⟩
        · have HPE := Lib.hid (HP.out.symm.trans (powI_odd_big HO.out hbig))
          obtain ⟨j0, j1, j2, j3, j4⟩ := XR3.out.facts
          clear hbig hv2
          obtain ⟨V, hV, ZR, hbV, hvV, -, -, -⟩ := stored_world XR3.out HB3.out (by omega) false none 0 0
          obtain ⟨z0, z1, z2, z3, z4⟩ := ZR.facts
          have HBV := Lib.hid hbV
          have HVV := Lib.hid hvV
          clear hbV hvV
          go_wp2
          first | rw [hV] | skip
          refine bodyPost_ret (v := .tuple #[.agg #[.bool false, .slice none 0 0], .int .i64 11]) (by simp [results, Tryz.results74, go_sem, z0, z1]) rfl ?_
          exact ⟨_, _, _, _, _, rfl, .inl ⟨HPE.out, rfl, intV_zero _⟩, HBV.out⟩
        · have NPP := Lib.hid hnb
          have V83 := Lib.hid (HVK.out _ _ hv2)
          clear hnb hv2
          by_cases h2 : gk / 2 = 0
          · have e2 : ((gk : Int) / 2 == 0) = true := by rw [beq_iff_eq]; omega
            have HPE := Lib.hid (HP.out.symm.trans (powI_odd_end HO.out h2 NPP.out))
            obtain ⟨k0, k1, k2, k3, k4⟩ := X83.out.facts
            obtain ⟨j0, j1, j2, j3, j4⟩ := XR3.out.facts
            obtain ⟨V, hV, ZR, hbV, hvV, -, -, -⟩ := stored_world XR3.out HB3.out (by omega) s2 A2 n2 c2
            obtain ⟨z0, z1, z2, z3, z4⟩ := ZR.facts
            have HBV := Lib.hid hbV
            have HVV := Lib.hid hvV
            clear hbV hvV
            go_wp2
            first | rw [hV] | skip
            refine bodyPost_ret (v := .tuple #[.agg #[.bool s2, .slice A2 n2 c2], .int .i64 0]) (by simp [results, Tryz.results74, go_sem, z0, z1]) rfl ?_
            exact ⟨_, _, _, _, _, rfl, .inr ⟨_, HPE.out, rfl, HVV.out _ _ V83.out⟩, HBV.out⟩
          · have e2 : ((gk : Int) / 2 == 0) = false := by rw [beq_eq_false_iff_ne]; omega
            have H2 := Lib.hid h2
            have M2 := Lib.hid (emul_int VA3.out VA3.out NA'.out NA'.out)
            obtain ⟨k0, k1, k2, k3, k4⟩ := X93.out.facts
            clear h2
            go_wp2_with fail
            refine M2.out.mono ?_
            rintro e w4 ⟨s4, A4, n4, c4, er4, rfl, hcase4, hb4⟩
            have Y8 := Lib.hid (X83.out.below hb4)
            have Y9 := Lib.hid (X93.out.below hb4)
            have YR := Lib.hid (XR3.out.below hb4)
            have HB4 := Lib.hid (bel_trans (B := w.heap.size) HB3.out hb4)
            have VP4 := Lib.hid (V83.out.keep hb4)
            clear k0 k1 k2 k3 k4 hb4
            obtain ⟨k0, k1, k2, k3, k4⟩ := Y9.out.facts
            obtain ⟨W5, hW5, Z9, hb5, hv5, -, ho5, -⟩ := stored_world Y9.out HB4.out (by omega) s4 A4 n4 c4
            have X85 := Lib.hid (ho5 _ _ _ _ _ (by omega) Y8.out)
            have XR5 := Lib.hid (ho5 _ _ _ _ _ (by omega) YR.out)
            have X95 := Lib.hid Z9
            have HB5 := Lib.hid hb5
            have HV5 := Lib.hid hv5
            clear hb5 hv5 ho5 Z9
            obtain ⟨j0, j1, j2, j3, j4⟩ := XR5.out.facts
            rcases hcase4 with ⟨hbig, rfl, hv4⟩ | ⟨hnb, rfl, hv4⟩
            · have HPE := Lib.hid (HP.out.symm.trans (powI_odd_sq HO.out H2.out NPP.out hbig))
              clear hbig hv4
              obtain ⟨V, hV, ZR, hbV, hvV, -, -, -⟩ := stored_world XR5.out HB5.out (by omega) false none 0 0
              obtain ⟨z0, z1, z2, z3, z4⟩ := ZR.facts
              have HBV := Lib.hid hbV
              have HVV := Lib.hid hvV
              clear hbV hvV
              go_wp2
              first | rw [hV] | skip
              refine bodyPost_ret (v := .tuple #[.agg #[.bool false, .slice none 0 0], .int .i64 11]) (by simp [results, Tryz.results74, go_sem, z0, z1]) rfl ?_
              exact ⟨_, _, _, _, _, rfl, .inl ⟨HPE.out, rfl, intV_zero _⟩, HBV.out⟩
            · have HPE := Lib.hid (HP.out.symm.trans (powI_odd_go HO.out H2.out NPP.out hnb))
              have NB := Lib.hid hnb
              have HV4 := Lib.hid hv4
              clear hnb hv4
              go_wp2_with fail
              go_roundg (gk / 2)
              case measure => have := H2.out; omega
              case rel => exact ⟨by first | rfl | (congr 1), by omega, (p * a'), a' * a', ⟨_, _, _, _, _, _, _, _, hg8, hg9, hgn, hgr8, hgr9, X85.out, X95.out, XR5.out, HV5.out _ _ VP4.out, HV5.out _ _ HV4.out, HB5.out⟩, NPP.out, NB.out, HPE.out.symm⟩
      · have e1 : ((gk : Int) % 2 == 1) = false := by rw [beq_eq_false_iff_ne]; omega
        have HO := Lib.hid ho
        clear ho
        by_cases h2 : gk / 2 = 0
        · have e2 : ((gk : Int) / 2 == 0) = true := by rw [beq_iff_eq]; omega
          have HPE := Lib.hid (HP.out.symm.trans (powI_even_end HO.out h2 NP.out))
          obtain ⟨k0, k1, k2, k3, k4⟩ := HX8.out.facts
          obtain ⟨j0, j1, j2, j3, j4⟩ := HXR.out.facts
          obtain ⟨V, hV, ZR, hbV, hvV, -, -, -⟩ := stored_world HXR.out HB.out (by omega) s8 A8 n8 c8
          obtain ⟨z0, z1, z2, z3, z4⟩ := ZR.facts
          have HBV := Lib.hid hbV
          have HVV := Lib.hid hvV
          clear hbV hvV
          go_wp2
          first | rw [hV] | skip
          refine bodyPost_ret (v := .tuple #[.agg #[.bool s8, .slice A8 n8 c8], .int .i64 0]) (by simp [results, Tryz.results74, go_sem, z0, z1]) rfl ?_
          exact ⟨_, _, _, _, _, rfl, .inr ⟨_, HPE.out, rfl, HVV.out _ _ HV8.out⟩, HBV.out⟩
        · have e2 : ((gk : Int) / 2 == 0) = false := by rw [beq_eq_false_iff_ne]; omega
          have H2 := Lib.hid h2
          have M2 := Lib.hid (emul_int HV9.out HV9.out NA'.out NA'.out)
          obtain ⟨k0, k1, k2, k3, k4⟩ := HX9.out.facts
          clear h2
          go_wp2_with fail
          refine M2.out.mono ?_
          rintro e w4 ⟨s4, A4, n4, c4, er4, rfl, hcase4, hb4⟩
          have Y8 := Lib.hid (HX8.out.below hb4)
          have Y9 := Lib.hid (HX9.out.below hb4)
          have YR := Lib.hid (HXR.out.below hb4)
          have HB4 := Lib.hid (bel_trans (B := w.heap.size) HB.out hb4)
          have VP4 := Lib.hid (HV8.out.keep hb4)
          clear k0 k1 k2 k3 k4 hb4
          obtain ⟨k0, k1, k2, k3, k4⟩ := Y9.out.facts
          obtain ⟨W5, hW5, Z9, hb5, hv5, -, ho5, -⟩ := stored_world Y9.out HB4.out (by omega) s4 A4 n4 c4
          have X85 := Lib.hid (ho5 _ _ _ _ _ (by omega) Y8.out)
          have XR5 := Lib.hid (ho5 _ _ _ _ _ (by omega) YR.out)
          have X95 := Lib.hid Z9
          have HB5 := Lib.hid hb5
          have HV5 := Lib.hid hv5
          clear hb5 hv5 ho5 Z9
          obtain ⟨j0, j1, j2, j3, j4⟩ := XR5.out.facts
          rcases hcase4 with ⟨hbig, rfl, hv4⟩ | ⟨hnb, rfl, hv4⟩
          · have HPE := Lib.hid (HP.out.symm.trans (powI_even_sq HO.out H2.out NP.out hbig))
            clear hbig hv4
            obtain ⟨V, hV, ZR, hbV, hvV, -, -, -⟩ := stored_world XR5.out HB5.out (by omega) false none 0 0
            obtain ⟨z0, z1, z2, z3, z4⟩ := ZR.facts
            have HBV := Lib.hid hbV
            have HVV := Lib.hid hvV
            clear hbV hvV
            go_wp2
            first | rw [hV] | skip
            refine bodyPost_ret (v := .tuple #[.agg #[.bool false, .slice none 0 0], .int .i64 11]) (by simp [results, Tryz.results74, go_sem, z0, z1]) rfl ?_
            exact ⟨_, _, _, _, _, rfl, .inl ⟨HPE.out, rfl, intV_zero _⟩, HBV.out⟩
          · have HPE := Lib.hid (HP.out.symm.trans (powI_even_go HO.out H2.out NP.out hnb))
            have NB := Lib.hid hnb
            have HV4 := Lib.hid hv4
            clear hnb hv4
            go_wp2_with fail
            go_roundg (gk / 2)
            case measure => have := H2.out; omega
            case rel => exact ⟨by first | rfl | (congr 1), by omega, p, a' * a', ⟨_, _, _, _, _, _, _, _, hg8, hg9, hgn, hgr8, hgr9, X85.out, X95.out, XR5.out, HV5.out _ _ VP4.out, HV5.out _ _ HV4.out, HB5.out⟩, NP.out, NB.out, HPE.out.symm⟩

end LM
end Go.Proofs.YtpaefbojilnnnaaGreatDoor
