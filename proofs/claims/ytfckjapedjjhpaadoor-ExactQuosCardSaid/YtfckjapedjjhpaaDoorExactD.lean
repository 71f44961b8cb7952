/- Walks of package exact: Add. -/
import Derived.Test.YtfckjapedjjhpaaDoorExactC
namespace Go.Proofs.YtfckjapedjjhpaaDoor
open Go.RowKit
namespace LM

/-- a call that answers a whole number, or that it is too great -/
def RetE (w : World) (z : Int) (e : Ending) (w' : World) : Prop := ∃ s A n c er, e = .returned (.tuple #[.agg #[.bool s, .slice A n c], .int .i64 er]) ∧
  ((BigI z ∧ er = 11 ∧ IntV w' (.agg #[.bool s, .slice A n c]) 0) ∨ (¬ BigI z ∧ er = 0 ∧ IntV w' (.agg #[.bool s, .slice A n c]) z)) ∧ Below w.heap.size w w'

theorem ans_open {w : World} {v : Value} {er : Int} {bad : Prop} {n : Nat} (h : Ans w v er bad n) :
    ∃ A c r, v = .slice A (List.length r) c ∧ r.length ≤ c ∧ c ≤ 9223372036854775807 ∧ Rd w A r ∧ Can r ∧ ((bad ∧ er = 11 ∧ val r = 0) ∨ (¬ bad ∧ er = 0 ∧ val r = n)) := by
  rcases h with ⟨h1, h2, h3⟩ | ⟨h1, h2, A, c, r, h3, h4, h5, h6, h7, h8⟩
  · exact ⟨none, 0, [], h2, Nat.le_refl _, by decide, Rd.nil, can_nil, .inl ⟨h1, h3, rfl⟩⟩
  · exact ⟨A, c, r, h3, h4, by omega, h6, h7, .inr ⟨h1, h2, h8⟩⟩

theorem retE_mk {w w3 : World} {z zr : Int} {b : Bool} {A : Option Addr} {n c : Nat} {er : Int} (hv : IntV w3 (.agg #[.bool b, .slice A n c]) zr) (hb : Below w.heap.size w w3) (hc : (BigI z ∧ er = 11 ∧ zr = 0) ∨ (¬ BigI z ∧ er = 0 ∧ zr = z)) :
    RetE w z (.returned (.tuple #[.agg #[.bool b, .slice A n c], .int .i64 er])) w3 := by
  rcases hc with ⟨h1, h2, rfl⟩ | ⟨h1, h2, rfl⟩
  · exact ⟨b, A, n, c, er, rfl, .inl ⟨h1, h2, hv⟩, hb⟩
  · exact ⟨b, A, n, c, er, rfl, .inr ⟨h1, h2, hv⟩, hb⟩
theorem case_sg {bad : Prop} {er : Int} {v n : Nat} (s : Bool) (h : (bad ∧ er = 11 ∧ v = 0) ∨ (¬ bad ∧ er = 0 ∧ v = n)) (hb : bad ↔ BIG n) : (BigI (sg s n) ∧ er = 11 ∧ sg s v = 0) ∨ (¬ BigI (sg s n) ∧ er = 0 ∧ sg s v = sg s n) := by
  rw [bigI_sg]
  rcases h with ⟨h1, h2, rfl⟩ | ⟨h1, h2, rfl⟩
  · exact .inl ⟨hb.1 h1, h2, sg_zero s⟩
  · exact .inr ⟨fun h => h1 (hb.2 h), h2, rfl⟩

set_option maxRecDepth 100000 in
set_option maxHeartbeats 1000000 in
theorem eadd_same (s : Bool) (A B : Option Addr) (ca cb : Nat) (xs ys : List Nat) (w : World) (ha : Rd w A xs) (hb : Rd w B ys) (hx : Can xs) (hy : Can ys) (hca : xs.length ≤ ca) (hcb : ys.length ≤ cb) (hcam : ca ≤ 9223372036854775807) (hcbm : cb ≤ 9223372036854775807)
    (hxl : xs.length ≤ 64) (hyl : ys.length ≤ 64) :
    Calls Tryd.prog 21 #[.agg #[.bool s, .slice A xs.length ca], .agg #[.bool s, .slice B ys.length cb]] w (RetE w (sg s (val xs + val ys))) := by
  obtain ⟨hb0, x0, y0, z0⟩ := new3 w s s A B xs.length ca ys.length cb
  have HB0 := Lib.hid hb0
  have X0 := Lib.hid x0
  have Z0 := Lib.hid z0
  have H1 := Lib.hid (add_any A B ca cb xs ys _ (ha.below hb0) (hb.below hb0) hx.1 hy.1 hca hcb hcam hcbm)
  have NX := Lib.hid (not_big_len hx hxl)
  have NY := Lib.hid (not_big_len hy hyl)
  clear hb0 x0 y0 z0 ha hb hx hy
  go_enter Tryd.func21, Tryd.ntmps21
  go_wp2_with fail
  refine H1.out.mono ?_
  rintro e w1 ⟨v, er, rfl, hans, hb1⟩
  obtain ⟨A1, c1, r1, rfl, hr1, hc1, hrd, hcan, hcase⟩ := ans_open hans
  obtain ⟨p0, p1, -, -, -⟩ := (X0.out.below hb1).facts
  have Z1 := Lib.hid (Z0.out.below hb1)
  have HB1 := Lib.hid (HB0.out.trans (hb1.mono HB0.out.size))
  have HS := Lib.hid (signed_num s A1 c1 r1 w1 hr1 hc1 hrd hcan)
  have HC := Lib.hid hcase
  clear hans hb1 hrd hcan hcase
  go_wp2_with fail
  refine HS.out.mono ?_
  rintro e w2 ⟨A2, n2, c2, rfl, hv, hb2⟩
  have Z2 := Lib.hid (Z1.out.below hb2)
  obtain ⟨q0, q1, z0, z1, zl⟩ := Z2.out.facts
  have HB2 := Lib.hid (HB1.out.trans (hb2.mono HB1.out.size))
  have HV := Lib.hid hv
  clear hv hb2 p0 p1
  go_wp2
  obtain ⟨W3, hW3, Z, hb3, hv3, -, -, -⟩ := stored_world Z2.out HB2.out (by omega) (decide (sg s (val r1) < 0)) A2 n2 c2
  rw [hW3]
  have HV3 := Lib.hid (hv3 _ _ HV.out)
  obtain ⟨c0, c1, -, -, -⟩ := Z.facts
  refine bodyPost_ret (v := .tuple #[.agg #[.bool (decide (sg s (val r1) < 0)), .slice A2 n2 c2], .int .i64 er]) (by simp [results, Tryd.results21, go_sem, c0, c1]) rfl ?_
  exact retE_mk HV3.out hb3 (case_sg s HC.out ⟨fun h => h.elim (fun h => (NX.out h).elim) fun h => h.elim (fun h => (NY.out h).elim) id, fun h => .inr (.inr h)⟩)

set_option maxRecDepth 100000 in
set_option maxHeartbeats 1000000 in
theorem eadd_diff (s t : Bool) (hst : t = !s) (A B : Option Addr) (ca cb : Nat) (xs ys : List Nat) (w : World) (ha : Rd w A xs) (hb : Rd w B ys) (hx : Can xs) (hy : Can ys) (hca : xs.length ≤ ca) (hcb : ys.length ≤ cb) (hcam : ca ≤ 9223372036854775807) (hcbm : cb ≤ 9223372036854775807)
    (hxl : xs.length ≤ 64) (hyl : ys.length ≤ 64) :
    Calls Tryd.prog 21 #[.agg #[.bool s, .slice A xs.length ca], .agg #[.bool t, .slice B ys.length cb]] w (RetE w (sg s (val xs) + sg t (val ys))) := by
  subst hst
  obtain ⟨hb0, x0, y0, z0⟩ := new3 w s (!s) A B xs.length ca ys.length cb
  have HB0 := Lib.hid hb0
  have X0 := Lib.hid x0
  have Y0 := Lib.hid y0
  have Z0 := Lib.hid z0
  have H1 := Lib.hid (sub_any A B ca cb xs ys _ (ha.below hb0) (hb.below hb0) hx.1 hy.1 hca hcb hcam hcbm (by omega))
  have NX := Lib.hid (not_big_len hx hxl)
  have NY := Lib.hid (not_big_len hy hyl)
  have HA := Lib.hid (ha.below hb0)
  have HB := Lib.hid (hb.below hb0)
  have HX := Lib.hid hx.1
  have HY := Lib.hid hy.1
  clear hb0 x0 y0 z0 ha hb hx hy
  go_enter Tryd.func21, Tryd.ntmps21
  go_wp2_with fail
  refine H1.out.mono ?_
  rintro e w1 ⟨v, ok, rfl, hans, hb1⟩
  have X1 := Lib.hid (X0.out.below hb1)
  have Y1 := Lib.hid (Y0.out.below hb1)
  obtain ⟨p0, p1, -, -, -⟩ := X1.out.facts
  obtain ⟨t0, t1, -, -, -⟩ := Y1.out.facts
  have Z1 := Lib.hid (Z0.out.below hb1)
  have HB1 := Lib.hid (HB0.out.trans (hb1.mono HB0.out.size))
  rcases hans with ⟨hlt, rfl, rfl⟩ | ⟨hle, rfl, hN⟩
  · have H2 := Lib.hid (sub_any B A cb ca ys xs _ (HB.out.below hb1) (HA.out.below hb1) HY.out HX.out hcb hca hcbm hcam (by omega))
    have HLT := Lib.hid hlt
    clear hb1 hlt
    go_wp2_with fail
    refine H2.out.mono ?_
    rintro e w2 ⟨v, ok, rfl, hans, hb2⟩
    rcases hans with ⟨hlt2, _, _⟩ | ⟨_, rfl, hN⟩
    · exact absurd HLT.out (by omega)
    obtain ⟨A1, c1, r1, rfl, hr1, hc1, hrd, hcan, hval⟩ := numW_of hN
    obtain ⟨u0, u1, -, -, -⟩ := (Y1.out.below hb2).facts
    have Z2 := Lib.hid (Z1.out.below hb2)
    have HB2 := Lib.hid (HB1.out.trans (hb2.mono HB1.out.size))
    clear p0 p1 t0 t1
    have HS := Lib.hid (signed_num (!s) A1 c1 r1 w2 hr1 hc1 hrd hcan)
    have HVAL := Lib.hid hval
    clear hN hrd hcan hval hb2
    go_wp2_with fail
    refine HS.out.mono ?_
    rintro e w4 ⟨A2, n2, c2, rfl, hv, hb4⟩
    have Z4 := Lib.hid (Z2.out.below hb4)
    obtain ⟨q0, q1, z0, z1, zl⟩ := Z4.out.facts
    have HB4 := Lib.hid (HB2.out.trans (hb4.mono HB2.out.size))
    have HV := Lib.hid hv
    clear hv hb4 u0 u1
    go_wp2
    obtain ⟨W3, hW3, Z, hb3, hv3, -, -, -⟩ := stored_world Z4.out HB4.out (by omega) (decide (sg (!s) (val r1) < 0)) A2 n2 c2
    rw [hW3]
    have HV3 := Lib.hid (hv3 _ _ HV.out)
    obtain ⟨c0, c1, -, -, -⟩ := Z.facts
    refine bodyPost_ret (v := .tuple #[.agg #[.bool (decide (sg (!s) (val r1) < 0)), .slice A2 n2 c2], .int .i64 0]) (by simp [results, Tryd.results21, go_sem, c0, c1]) rfl ?_
    refine retE_mk HV3.out hb3 (.inr ⟨fun h => ?_, rfl, ?_⟩)
    · rw [sg_add_lt _ _ _ _ (by simp) (Nat.le_of_lt HLT.out), bigI_sg] at h
      exact NY.out (h.mono (Nat.sub_le _ _))
    · rw [HVAL.out, sg_add_lt _ _ _ _ (by simp) (Nat.le_of_lt HLT.out)]
  · obtain ⟨A1, c1, r1, rfl, hr1, hc1, hrd, hcan, hval⟩ := numW_of hN
    have HLE := Lib.hid hle
    have HS := Lib.hid (signed_num s A1 c1 r1 w1 hr1 hc1 hrd hcan)
    have HVAL := Lib.hid hval
    clear hN hrd hcan hval hb1 hle
    go_wp2_with fail
    refine HS.out.mono ?_
    rintro e w4 ⟨A2, n2, c2, rfl, hv, hb4⟩
    have Z4 := Lib.hid (Z1.out.below hb4)
    obtain ⟨q0, q1, z0, z1, zl⟩ := Z4.out.facts
    have HB4 := Lib.hid (HB1.out.trans (hb4.mono HB1.out.size))
    have HV := Lib.hid hv
    clear hv hb4 p0 p1 t0 t1
    go_wp2
    obtain ⟨W3, hW3, Z, hb3, hv3, -, -, -⟩ := stored_world Z4.out HB4.out (by omega) (decide (sg s (val r1) < 0)) A2 n2 c2
    rw [hW3]
    have HV3 := Lib.hid (hv3 _ _ HV.out)
    obtain ⟨c0, c1, -, -, -⟩ := Z.facts
    refine bodyPost_ret (v := .tuple #[.agg #[.bool (decide (sg s (val r1) < 0)), .slice A2 n2 c2], .int .i64 0]) (by simp [results, Tryd.results21, go_sem, c0, c1]) rfl ?_
    refine retE_mk HV3.out hb3 (.inr ⟨fun h => ?_, rfl, ?_⟩)
    · rw [sg_add_ge _ _ _ _ (by simp) HLE.out, bigI_sg] at h
      exact NX.out (h.mono (Nat.sub_le _ _))
    · rw [HVAL.out, sg_add_ge _ _ _ _ (by simp) HLE.out]

theorem sg_self {z : Int} {n : Nat} (h : n = z.natAbs) : sg (decide (z < 0)) n = z := by rw [h, sg_of]
theorem bool_other {s t : Bool} (h : ¬ s = t) : t = !s := by cases s <;> cases t <;> simp at *
/-- the sum of any two that aren't too great -/
theorem eadd_int {va vb : Value} {x y : Int} {w : World} (ha : IntV w va x) (hb : IntV w vb y) (hx : ¬ BigI x) (hy : ¬ BigI y) : Calls Tryd.prog 21 #[va, vb] w (RetE w (x + y)) := by
  obtain ⟨A, ca, xs, rfl, h1, h2, h3, h4, h5⟩ := ha
  obtain ⟨B, cb, ys, rfl, k1, k2, k3, k4, k5⟩ := hb
  have e1 := sg_self h5
  have e2 := sg_self k5
  have l1 : xs.length ≤ 64 := len_not_big h4 (by rw [h5]; exact hx)
  have l2 : ys.length ≤ 64 := len_not_big k4 (by rw [k5]; exact hy)
  by_cases hs : decide (x < 0) = decide (y < 0)
  · have h := eadd_same (decide (x < 0)) A B ca cb xs ys w h3 k3 h4 k4 h1 k1 h2 k2 l1 l2
    rw [← sg_add_same, e1] at h
    rw [hs, e2] at h
    rw [hs]
    exact h
  · have h := eadd_diff (decide (x < 0)) (decide (y < 0)) (bool_other hs) A B ca cb xs ys w h3 k3 h4 k4 h1 k1 h2 k2 l1 l2
    rw [e1, e2] at h
    exact h

end LM
end Go.Proofs.YtfckjapedjjhpaaDoor
