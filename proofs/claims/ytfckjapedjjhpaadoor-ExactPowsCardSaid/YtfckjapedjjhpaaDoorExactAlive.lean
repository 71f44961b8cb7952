/- What every statement of layer 2 asks first. -/
import Derived.Test.YtfckjapedjjhpaaDoorExactF
namespace Go.Proofs.YtfckjapedjjhpaaDoor
open Go.RowKit
namespace LM

theorem RetI.gen {w w' : World} {z : Int} {e : Ending} (h : RetI w z e w') : ∃ s A n c, e = .returned (.agg #[.bool s, .slice A n c]) ∧ IntV w' (.agg #[.bool s, .slice A n c]) z ∧ Below w.heap.size w w' := by
  obtain ⟨A, n, c, h1, h2, h3⟩ := h
  exact ⟨_, A, n, c, h1, h2, h3⟩
theorem small_not_big {z : Int} (h : z.natAbs < 18446744073709551616 * 4294967296) : ¬ BigI z := by
  intro hb
  have h1 : 4294967296 ^ 3 ≤ 4294967296 ^ 64 := Nat.pow_le_pow_right (by decide) (by decide)
  have h2 : (4294967296 : Nat) ^ 3 = 18446744073709551616 * 4294967296 := by decide
  unfold BigI BIG at hb
  omega
theorem dec_small {n : Nat} (h : n < 10) : Lib.decDigits n = [UInt8.ofNat (48 + n)] := Lib.decDigits_one h

set_option maxRecDepth 100000 in
set_option maxHeartbeats 2000000 in
theorem ealive_any (w : World) (htab : Lib.TabIs Tryd.prog w "internal/strconv.uint64pow10" .u64 Lib.pow10Tab) :
    Calls Tryd.prog 13 #[] w fun e w' => e = .returned (.bool true) ∧ Below w.heap.size w w' := by
  have HTAB := Lib.hid htab
  clear htab
  have H7 : Hid (∀ W, Calls Tryd.prog 12 #[.int .i64 (-7)] W (RetI W (-7))) := Lib.hid (eof_int (-7) (by decide) (by decide))
  have H2 : Hid (∀ W, Calls Tryd.prog 12 #[.int .i64 2] W (RetI W 2)) := Lib.hid (eof_int 2 (by decide) (by decide))
  have N7 : Hid (¬ BigI (-7)) := Lib.hid (small_not_big (by decide))
  have N2 : Hid (¬ BigI 2) := Lib.hid (small_not_big (by decide))
  go_enter Tryd.func13, Tryd.ntmps13
  go_wp2_with fail
  refine (H7.out _).mono ?_
  intro e w1 hr
  obtain ⟨s1, A1, n1, c1, rfl, hv1, hb1⟩ := hr.gen
  have HV1 := Lib.hid hv1
  have HB1 := Lib.hid hb1
  clear hr hv1 hb1
  go_wp2_with fail
  refine (H2.out _).mono ?_
  intro e w2 hr
  obtain ⟨s2, A2, n2, c2, rfl, hv2, hb2⟩ := hr.gen
  have HQ := Lib.hid (equo_int (HV1.out.keep hb2) hv2 N7.out N2.out)
  have HB2 := Lib.hid (HB1.out.trans (hb2.mono HB1.out.size))
  clear hr hv2 hb2
  go_wp2_with fail
  refine HQ.out.mono ?_
  rintro e w3 ⟨s3, A3, n3, c3, s4, A4, n4, c4, er, rfl, hcase, hb3⟩
  obtain ⟨rfl, hq, hr⟩ := hcase.elim (fun h => absurd h.1 (by decide)) fun h => h.2
  have HB3 := Lib.hid (HB2.out.trans (hb3.mono HB2.out.size))
  have XQ := Lib.hid ((Bx.new w3 s3 A3 n3 c3).alloc (.cells #[.bool s4, .slice A4 n4 c4] 24))
  have xr := Bx.new (w3.alloc (.cells #[.bool s3, .slice A3 n3 c3] 24)) s4 A4 n4 c4
  rw [World.size_alloc] at xr
  have XR := Lib.hid xr
  have VQ := Lib.hid ((hq.alloc (.cells #[.bool s3, .slice A3 n3 c3] 24)).alloc (.cells #[.bool s4, .slice A4 n4 c4] 24))
  have VR := Lib.hid ((hr.alloc (.cells #[.bool s3, .slice A3 n3 c3] 24)).alloc (.cells #[.bool s4, .slice A4 n4 c4] 24))
  have HB4 : Hid (Below w.heap.size w ((w3.alloc (.cells #[.bool s3, .slice A3 n3 c3] 24)).alloc (.cells #[.bool s4, .slice A4 n4 c4] 24))) := Lib.hid ((HB3.out.alloc HB3.out.size _).alloc (by have := HB3.out.size; simp; omega) _)
  clear hcase hq hr hb3 xr
  go_wp2_with fail
  refine (H7.out _).mono ?_
  intro e w5 hr
  obtain ⟨s5, A5, n5, c5, rfl, hv5, hb5⟩ := hr.gen
  have XQ5 := Lib.hid (XQ.out.below hb5)
  have XR5 := Lib.hid (XR.out.below hb5)
  have VQ5 := Lib.hid (VQ.out.keep hb5)
  have VR5 := Lib.hid (VR.out.keep hb5)
  have HB5 := Lib.hid (HB4.out.trans (hb5.mono HB4.out.size))
  have HV5 := Lib.hid hv5
  clear hr hv5 hb5 XQ XR VQ VR
  go_wp2_with fail
  refine (H2.out _).mono ?_
  intro e w6 hr
  obtain ⟨s6, A6, n6, c6, rfl, hv6, hb6⟩ := hr.gen
  have HM := Lib.hid (emod_int (HV5.out.keep hb6) hv6 N7.out N2.out)
  have XQ6 := Lib.hid (XQ5.out.below hb6)
  have XR6 := Lib.hid (XR5.out.below hb6)
  have VQ6 := Lib.hid (VQ5.out.keep hb6)
  have VR6 := Lib.hid (VR5.out.keep hb6)
  have HB6 := Lib.hid (HB5.out.trans (hb6.mono HB5.out.size))
  clear hr hv6 hb6 XQ5 XR5 VQ5 VR5
  go_wp2_with fail
  refine HM.out.mono ?_
  rintro e w7 ⟨s7, A7, n7, c7, er, rfl, hcase, hb7⟩
  obtain ⟨rfl, hm⟩ := hcase.elim (fun h => absurd h.1 (by decide)) fun h => h.2
  have HB7 := Lib.hid (HB6.out.trans (hb7.mono HB6.out.size))
  have XM := Lib.hid (Bx.new w7 s7 A7 n7 c7)
  have XQ7 := Lib.hid ((XQ6.out.below hb7).alloc (.cells #[.bool s7, .slice A7 n7 c7] 24))
  have XR7 := Lib.hid ((XR6.out.below hb7).alloc (.cells #[.bool s7, .slice A7 n7 c7] 24))
  have VQ7 := Lib.hid ((VQ6.out.keep hb7).alloc (.cells #[.bool s7, .slice A7 n7 c7] 24))
  have VR7 := Lib.hid ((VR6.out.keep hb7).alloc (.cells #[.bool s7, .slice A7 n7 c7] 24))
  have VM7 := Lib.hid (hm.alloc (.cells #[.bool s7, .slice A7 n7 c7] 24))
  have HB8 : Hid (Below w.heap.size w (w7.alloc (.cells #[.bool s7, .slice A7 n7 c7] 24))) := Lib.hid (HB7.out.alloc HB7.out.size _)
  obtain ⟨q0, q1, -, -, ql⟩ := (XQ6.out.below hb7).facts
  have HT1 := Lib.hid (etext_int VQ7.out (show ¬ BigI (quoI (-7) 2) from small_not_big (by decide)) (tab_below HTAB.out HB8.out))
  clear hcase hm hb7 XQ6 XR6 VQ6 VR6
  go_wp2_with fail
  refine HT1.out.mono ?_
  rintro e w9 ⟨rfl, hb9⟩
  rw [show decI (quoI (-7) 2) = [45, 51] from by rw [show quoI (-7) 2 = -3 from by decide]; unfold decI; rw [if_pos (by decide), show (-3 : Int).natAbs = 3 from rfl, dec_small (by decide)]; rfl]
  have XR9 := Lib.hid (XR7.out.below hb9)
  have XM9 := Lib.hid (XM.out.below hb9)
  have HB9 := Lib.hid (HB8.out.trans (hb9.mono HB8.out.size))
  have HT2 := Lib.hid (etext_int (VR7.out.keep hb9) (show ¬ BigI (remI (-7) 2) from small_not_big (by decide)) (tab_below HTAB.out HB9.out))
  have VM9 := Lib.hid (VM7.out.keep hb9)
  clear hb9 q0 q1 ql
  obtain ⟨q0, q1, -, -, ql⟩ := XR9.out.facts
  go_wp2_with fail
  refine HT2.out.mono ?_
  rintro e w10 ⟨rfl, hb10⟩
  rw [show decI (remI (-7) 2) = [45, 49] from by rw [show remI (-7) 2 = -1 from by decide]; unfold decI; rw [if_pos (by decide), show (-1 : Int).natAbs = 1 from rfl, dec_small (by decide)]; rfl]
  have HB10 := Lib.hid (HB9.out.trans (hb10.mono HB9.out.size))
  have HT3 := Lib.hid (etext_int (VM9.out.keep hb10) (show ¬ BigI (modI (-7) 2) from small_not_big (by decide)) (tab_below HTAB.out HB10.out))
  have XM10 := Lib.hid (XM9.out.below hb10)
  clear hb10 q0 q1 ql
  obtain ⟨q0, q1, -, -, ql⟩ := XM10.out.facts
  go_wp2_with fail
  refine HT3.out.mono ?_
  rintro e w11 ⟨rfl, hb11⟩
  rw [show decI (modI (-7) 2) = [49] from by rw [show modI (-7) 2 = 1 from by decide]; unfold decI; rw [if_neg (by decide), show (1 : Int).natAbs = 1 from rfl, dec_small (by decide)]; rfl]
  have HB11 := Lib.hid (HB10.out.trans (hb11.mono HB10.out.size))
  clear hb11 q0 q1 ql
  go_wp2
  go_ret
  exact ⟨rfl, HB11.out⟩

end LM
end Go.Proofs.YtfckjapedjjhpaaDoor
