/- Walks of package exact: Add, Mul, Quo. -/
import Derived.Test.YtpnjddfnlaonoaaGreatDoorK25
import Derived.Test.YtpnjddfnlaonoaaGreatDoorK26
namespace Go.Proofs.YtpnjddfnlaonoaaGreatDoor
open Go.RowKit
namespace LM

/-- a call that answers a whole number, or that it is too great -/
def RetE (w : World) (z : Int) (e : Ending) (w' : World) : Prop := ∃ s A n c er, e = .returned (.tuple #[.agg #[.bool s, .slice A n c], .int .i64 er]) ∧
  ((BigI z ∧ er = 11 ∧ IntV w' (.agg #[.bool s, .slice A n c]) 0) ∨ (¬ BigI z ∧ er = 0 ∧ IntV w' (.agg #[.bool s, .slice A n c]) z)) ∧ Below w.heap.size w w'

theorem ans_open {w : World} {v : Value} {er : Int} {bad : Prop} {n : Nat} (h : Ans w v er bad n) :
    ∃ A c r, v = .slice A (List.length r) c ∧ r.length ≤ c ∧ c ≤ 9223372036854775807 ∧ Rd w A r ∧ Can r ∧ ((bad ∧ er = 11 ∧ val r = 0) ∨ (¬ bad ∧ er = 0 ∧ val r = n)) := by
  rcases h with ⟨h1, h2, h3⟩ | ⟨h1, h2, A, c, r, h3, h4, h5, h6, h7, h8⟩
  · exact ⟨none, 0, [], h2, Nat.le_refl _, by decide, Rd.nil, can_nil, .inl ⟨h1, h3, rfl⟩⟩
  · exact ⟨A, c, r, h3, h4, by omega, h6, h7, .inr ⟨h1, h2, h8⟩⟩

theorem retE_mk {w w3 : World} {z zr : Int} {b : Bool} {A : Option Addr} {n c : Nat} {er : Int} (hv : IntV w3 (.agg #[.bool b, .slice A n c]) zr) (hb : Below w.heap.size w w3) (hc : (BigI z ∧ er = 11 ∧ zr = 0) ∨ (¬ BigI z ∧ er = 0 ∧ zr = z)) :
    RetE w z (.returned (.tuple #[.agg #[.bool b, .slice A n c], .int .i64 er])) w3 := by
  rcases hc with ⟨h1, h2, rfl⟩ | ⟨h1, h2, rfl⟩
  · exact ⟨b, A, n, c, er, rfl, .inl ⟨h1, h2, hv⟩, hb⟩
  · exact ⟨b, A, n, c, er, rfl, .inr ⟨h1, h2, hv⟩, hb⟩
theorem case_sg {bad : Prop} {er : Int} {v n : Nat} (s : Bool) (h : (bad ∧ er = 11 ∧ v = 0) ∨ (¬ bad ∧ er = 0 ∧ v = n)) (hb : bad ↔ BIG n) : (BigI (sg s n) ∧ er = 11 ∧ sg s v = 0) ∨ (¬ BigI (sg s n) ∧ er = 0 ∧ sg s v = sg s n) := by
  rw [bigI_sg]
  rcases h with ⟨h1, h2, rfl⟩ | ⟨h1, h2, rfl⟩
  · exact .inl ⟨hb.1 h1, h2, sg_zero s⟩
  · exact .inr ⟨fun h => h1 (hb.2 h), h2, rfl⟩

set_option maxRecDepth 100000 in
set_option maxHeartbeats 1000000 in
theorem emul_any (s t : Bool) (A B : Option Addr) (ca cb : Nat) (xs ys : List Nat) (w : World) (ha : Rd w A xs) (hb : Rd w B ys) (hx : Can xs) (hy : Can ys) (hca : xs.length ≤ ca) (hcb : ys.length ≤ cb) (hcam : ca ≤ 9223372036854775807) (hcbm : cb ≤ 9223372036854775807)
    (hxl : xs.length ≤ 64) (hyl : ys.length ≤ 64) :
    Calls Tryz.prog 87 #[.agg #[.bool s, .slice A xs.length ca], .agg #[.bool t, .slice B ys.length cb]] w (RetE w (sg (s != t) (val xs * val ys))) := by
  obtain ⟨hb0, x0, y0, z0⟩ := new3 w s t A B xs.length ca ys.length cb
  have HB0 := Lib.hid hb0
  have X0 := Lib.hid x0
  have Y0 := Lib.hid y0
  have Z0 := Lib.hid z0
  have H1 := Lib.hid (mul_any A B ca cb xs ys _ (ha.below hb0) (hb.below hb0) hx.1 hy.1 hca hcb hcam hcbm)
  have NX := Lib.hid (not_big_len hx hxl)
  have NY := Lib.hid (not_big_len hy hyl)
  clear hb0 x0 y0 z0 ha hb hx hy
  go_enter Tryz.func87, Tryz.ntmps87
  go_wp2_with fail
  refine H1.out.mono ?_
  rintro e w1 ⟨v, er, rfl, hans, hb1⟩
  obtain ⟨A1, c1, r1, rfl, hr1, hc1, hrd, hcan, hcase⟩ := ans_open hans
  obtain ⟨p0, p1, -, -, -⟩ := (X0.out.below hb1).facts
  obtain ⟨t0, t1, -, -, -⟩ := (Y0.out.below hb1).facts
  have Z1 := Lib.hid (Z0.out.below hb1)
  have HB1 := Lib.hid (HB0.out.trans (hb1.mono HB0.out.size))
  have HS := Lib.hid (signed_num (s != t) A1 c1 r1 w1 hr1 hc1 hrd hcan)
  have HC := Lib.hid hcase
  clear hans hb1 hrd hcan hcase
  go_wp2_with fail
  refine HS.out.mono ?_
  rintro e w2 ⟨A2, n2, c2, rfl, hv, hb2⟩
  have Z2 := Lib.hid (Z1.out.below hb2)
  obtain ⟨q0, q1, z0, z1, zl⟩ := Z2.out.facts
  have HB2 := Lib.hid (HB1.out.trans (hb2.mono HB1.out.size))
  have HV := Lib.hid hv
  clear hv hb2 p0 p1 t0 t1
  go_wp2
  obtain ⟨W3, hW3, Z, hb3, hv3, -, -, -⟩ := stored_world Z2.out HB2.out (by omega) (decide (sg (s != t) (val r1) < 0)) A2 n2 c2
  rw [hW3]
  have HV3 := Lib.hid (hv3 _ _ HV.out)
  obtain ⟨c0, c1, -, -, -⟩ := Z.facts
  refine bodyPost_ret (v := .tuple #[.agg #[.bool (decide (sg (s != t) (val r1) < 0)), .slice A2 n2 c2], .int .i64 er]) (by simp [results, Tryz.results87, go_sem, c0, c1]) rfl ?_
  exact retE_mk HV3.out hb3 (case_sg (s != t) HC.out ⟨fun h => h.elim (fun h => (NX.out h).elim) fun h => h.elim (fun h => (NY.out h).elim) id, fun h => .inr (.inr h)⟩)

theorem emul_int {va vb : Value} {x y : Int} {w : World} (ha : IntV w va x) (hb : IntV w vb y) (hx : ¬ BigI x) (hy : ¬ BigI y) : Calls Tryz.prog 87 #[va, vb] w (RetE w (x * y)) := by
  obtain ⟨A, ca, xs, rfl, h1, h2, h3, h4, h5⟩ := ha
  obtain ⟨B, cb, ys, rfl, k1, k2, k3, k4, k5⟩ := hb
  have l1 : xs.length ≤ 64 := len_not_big h4 (by rw [h5]; exact hx)
  have l2 : ys.length ≤ 64 := len_not_big k4 (by rw [k5]; exact hy)
  have h := emul_any (decide (x < 0)) (decide (y < 0)) A B ca cb xs ys w h3 k3 h4 k4 h1 k1 h2 k2 l1 l2
  rw [h5, k5, ← abs_mul_sg] at h
  exact h

/-- what a division of whole numbers answers -/
def RetQ (w : World) (x y : Int) (e : Ending) (w' : World) : Prop := ∃ s A n c s' A' n' c' er, e = .returned (.tuple #[.agg #[.bool s, .slice A n c], .agg #[.bool s', .slice A' n' c'], .int .i64 er]) ∧
  ((y = 0 ∧ er = 12 ∧ IntV w' (.agg #[.bool s, .slice A n c]) 0 ∧ IntV w' (.agg #[.bool s', .slice A' n' c']) 0) ∨ (y ≠ 0 ∧ er = 0 ∧ IntV w' (.agg #[.bool s, .slice A n c]) (quoI x y) ∧ IntV w' (.agg #[.bool s', .slice A' n' c']) (remI x y))) ∧ Below w.heap.size w w'

end LM
end Go.Proofs.YtpnjddfnlaonoaaGreatDoor
