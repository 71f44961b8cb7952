/- Walks of package exact: Add, Mul, Quo. -/
import Derived.Test.YtpnjddfnlaonoaaGreatDoorL08
import Derived.Test.YtpnjddfnlaonoaaGreatDoorL14
namespace Go.Proofs.YtpnjddfnlaonoaaGreatDoor
open Go.RowKit
namespace LM

/-- a call that answers a whole number, or that it is too great -/
def RetE (w : World) (z : Int) (e : Ending) (w' : World) : Prop := ∃ s A n c er, e = .returned (.tuple #[.agg #[.bool s, .slice A n c], .int .i64 er]) ∧
  ((BigI z ∧ er = 11 ∧ IntV w' (.agg #[.bool s, .slice A n c]) 0) ∨ (¬ BigI z ∧ er = 0 ∧ IntV w' (.agg #[.bool s, .slice A n c]) z)) ∧ Below w.heap.size w w'

theorem ans_open {w : World} {v : Value} {er : Int} {bad : Prop} {n : Nat} (h : Ans w v er bad n) :
    ∃ A c r, v = .slice A (List.length r) c ∧ r.length ≤ c ∧ c ≤ 9223372036854775807 ∧ Rd w A r ∧ Can r ∧ ((bad ∧ er = 11 ∧ val r = 0) ∨ (¬ bad ∧ er = 0 ∧ val r = n)) := by
  rcases h with ⟨h1, h2, h3⟩ | ⟨h1, h2, A, c, r, h3, h4, h5, h6, h7, h8⟩
  · exact ⟨none, 0, [], h2, Nat.le_refl _, by decide, Rd.nil, can_nil, .inl ⟨h1, h3, rfl⟩⟩
  · exact ⟨A, c, r, h3, h4, by omega, h6, h7, .inr ⟨h1, h2, h8⟩⟩

theorem retE_mk {w w3 : World} {z zr : Int} {b : Bool} {A : Option Addr} {n c : Nat} {er : Int} (hv : IntV w3 (.agg #[.bool b, .slice A n c]) zr) (hb : Below w.heap.size w w3) (hc : (BigI z ∧ er = 11 ∧ zr = 0) ∨ (¬ BigI z ∧ er = 0 ∧ zr = z)) :
    RetE w z (.returned (.tuple #[.agg #[.bool b, .slice A n c], .int .i64 er])) w3 := by
  rcases hc with ⟨h1, h2, rfl⟩ | ⟨h1, h2, rfl⟩
  · exact ⟨b, A, n, c, er, rfl, .inl ⟨h1, h2, hv⟩, hb⟩
  · exact ⟨b, A, n, c, er, rfl, .inr ⟨h1, h2, hv⟩, hb⟩
theorem case_sg {bad : Prop} {er : Int} {v n : Nat} (s : Bool) (h : (bad ∧ er = 11 ∧ v = 0) ∨ (¬ bad ∧ er = 0 ∧ v = n)) (hb : bad ↔ BIG n) : (BigI (sg s n) ∧ er = 11 ∧ sg s v = 0) ∨ (¬ BigI (sg s n) ∧ er = 0 ∧ sg s v = sg s n) := by
  rw [bigI_sg]
  rcases h with ⟨h1, h2, rfl⟩ | ⟨h1, h2, rfl⟩
  · exact .inl ⟨hb.1 h1, h2, sg_zero s⟩
  · exact .inr ⟨fun h => h1 (hb.2 h), h2, rfl⟩

set_option maxRecDepth 100000 in
set_option maxHeartbeats 1000000 in
theorem emul_any (s t : Bool) (A B : Option Addr) (ca cb : Nat) (xs ys : List Nat) (w : World) (ha : Rd w A xs) (hb : Rd w B ys) (hx : Can xs) (hy : Can ys) (hca : xs.length ≤ ca) (hcb : ys.length ≤ cb) (hcam : ca ≤ 9223372036854775807) (hcbm : cb ≤ 9223372036854775807)
    (hxl : xs.length ≤ 64) (hyl : ys.length ≤ 64) :
    Calls Tryz.prog 87 #[.agg #[.bool s, .slice A xs.length ca], .agg #[.bool t, .slice B ys.length cb]] w (RetE w (sg (s != t) (val xs * val ys))) := by
  obtain ⟨hb0, x0, y0, z0⟩ := new3 w s t A B xs.length ca ys.length cb
  have HB0 := Lib.hid hb0
  have X0 := Lib.hid x0
  have Y0 := Lib.hid y0
  have Z0 := Lib.hid z0
  have H1 := Lib.hid (mul_any A B ca cb xs ys _ (ha.below hb0) (hb.below hb0) hx.1 hy.1 hca hcb hcam hcbm)
  have NX := Lib.hid (not_big_len hx hxl)
  have NY := Lib.hid (not_big_len hy hyl)
  clear hb0 x0 y0 z0 ha hb hx hy
  go_enter Tryz.func87, Tryz.ntmps87
  go_wp2_with fail
  refine H1.out.mono ?_
  rintro e w1 ⟨v, er, rfl, hans, hb1⟩
  obtain ⟨A1, c1, r1, rfl, hr1, hc1, hrd, hcan, hcase⟩ := ans_open hans
  obtain ⟨p0, p1, -, -, -⟩ := (X0.out.below hb1).facts
  obtain ⟨t0, t1, -, -, -⟩ := (Y0.out.below hb1).facts
  have Z1 := Lib.hid (Z0.out.below hb1)
  have HB1 := Lib.hid (HB0.out.trans (hb1.mono HB0.out.size))
  have HS := Lib.hid (signed_num (s != t) A1 c1 r1 w1 hr1 hc1 hrd hcan)
  have HC := Lib.hid hcase
  clear hans hb1 hrd hcan hcase
  go_wp2_with fail
  refine HS.out.mono ?_
  rintro e w2 ⟨A2, n2, c2, rfl, hv, hb2⟩
  have Z2 := Lib.hid (Z1.out.below hb2)
  obtain ⟨q0, q1, z0, z1, zl⟩ := Z2.out.facts
  have HB2 := Lib.hid (HB1.out.trans (hb2.mono HB1.out.size))
  have HV := Lib.hid hv
  clear hv hb2 p0 p1 t0 t1
  go_wp2
  obtain ⟨W3, hW3, Z, hb3, hv3, -, -, -⟩ := stored_world Z2.out HB2.out (by omega) (decide (sg (s != t) (val r1) < 0)) A2 n2 c2
  rw [hW3]
  have HV3 := Lib.hid (hv3 _ _ HV.out)
  obtain ⟨c0, c1, -, -, -⟩ := Z.facts
  refine bodyPost_ret (v := .tuple #[.agg #[.bool (decide (sg (s != t) (val r1) < 0)), .slice A2 n2 c2], .int .i64 er]) (by simp [results, Tryz.results87, go_sem, c0, c1]) rfl ?_
  exact retE_mk HV3.out hb3 (case_sg (s != t) HC.out ⟨fun h => h.elim (fun h => (NX.out h).elim) fun h => h.elim (fun h => (NY.out h).elim) id, fun h => .inr (.inr h)⟩)

theorem emul_int {va vb : Value} {x y : Int} {w : World} (ha : IntV w va x) (hb : IntV w vb y) (hx : ¬ BigI x) (hy : ¬ BigI y) : Calls Tryz.prog 87 #[va, vb] w (RetE w (x * y)) := by
  obtain ⟨A, ca, xs, rfl, h1, h2, h3, h4, h5⟩ := ha
  obtain ⟨B, cb, ys, rfl, k1, k2, k3, k4, k5⟩ := hb
  have l1 : xs.length ≤ 64 := len_not_big h4 (by rw [h5]; exact hx)
  have l2 : ys.length ≤ 64 := len_not_big k4 (by rw [k5]; exact hy)
  have h := emul_any (decide (x < 0)) (decide (y < 0)) A B ca cb xs ys w h3 k3 h4 k4 h1 k1 h2 k2 l1 l2
  rw [h5, k5, ← abs_mul_sg] at h
  exact h

/-- what a division of whole numbers answers -/
def RetQ (w : World) (x y : Int) (e : Ending) (w' : World) : Prop := ∃ s A n c s' A' n' c' er, e = .returned (.tuple #[.agg #[.bool s, .slice A n c], .agg #[.bool s', .slice A' n' c'], .int .i64 er]) ∧
  ((y = 0 ∧ er = 12 ∧ IntV w' (.agg #[.bool s, .slice A n c]) 0 ∧ IntV w' (.agg #[.bool s', .slice A' n' c']) 0) ∨ (y ≠ 0 ∧ er = 0 ∧ IntV w' (.agg #[.bool s, .slice A n c]) (quoI x y) ∧ IntV w' (.agg #[.bool s', .slice A' n' c']) (remI x y))) ∧ Below w.heap.size w w'

theorem div_open {w : World} {x y : Nat} {e : Ending} {w' : World} (h : DivE w x y e w') (hx : ¬ BIG x) (hy : ¬ BIG y) :
    ∃ A c r A' c' r' er, e = .returned (.tuple #[.slice A (List.length r) c, .slice A' (List.length r') c', .int .i64 er]) ∧ (r.length ≤ c ∧ c ≤ 9223372036854775807 ∧ Rd w' A r ∧ Can r) ∧ (r'.length ≤ c' ∧ c' ≤ 9223372036854775807 ∧ Rd w' A' r' ∧ Can r') ∧
      ((y = 0 ∧ er = 12 ∧ val r = 0 ∧ val r' = 0) ∨ (y ≠ 0 ∧ er = 0 ∧ val r = x / y ∧ val r' = x % y)) ∧ Below w.heap.size w w' := by
  obtain ⟨q, r, er, rfl, hb, h1 | h1 | h1⟩ := h
  · exact absurd h1.1 (by rintro (h | h); exact hx h; exact hy h)
  · obtain ⟨_, _, h0, rfl, rfl, rfl⟩ := h1
    exact ⟨none, 0, [], none, 0, [], 12, rfl, ⟨Nat.le_refl _, by decide, Rd.nil, can_nil⟩, ⟨Nat.le_refl _, by decide, Rd.nil, can_nil⟩, .inl ⟨h0, rfl, rfl, rfl⟩, hb⟩
  · obtain ⟨_, _, h0, rfl, hq, hr⟩ := h1
    obtain ⟨A, c, l, rfl, a1, a2, a3, a4, a5⟩ := numW_of hq
    obtain ⟨A', c', l', rfl, b1, b2, b3, b4, b5⟩ := numW_of hr
    exact ⟨A, c, l, A', c', l', 0, rfl, ⟨a1, a2, a3, a4⟩, ⟨b1, b2, b3, b4⟩, .inr ⟨by omega, rfl, a5, b5⟩, hb⟩

theorem retQ_mk {w w5 : World} {x y : Int} {s t b b' : Bool} {A A' : Option Addr} {n c n' c' m k q r : Nat} {er : Int} (hq : IntV w5 (.agg #[.bool b, .slice A n c]) (sg (!(s == t)) q)) (hr : IntV w5 (.agg #[.bool b', .slice A' n' c']) (sg s r)) (hb : Below w.heap.size w w5)
    (hc : (k = 0 ∧ er = 12 ∧ q = 0 ∧ r = 0) ∨ (k ≠ 0 ∧ er = 0 ∧ q = m / k ∧ r = m % k)) (hs : s = decide (x < 0)) (ht : t = decide (y < 0)) (hm : m = x.natAbs) (hk : k = y.natAbs) :
    RetQ w x y (.returned (.tuple #[.agg #[.bool b, .slice A n c], .agg #[.bool b', .slice A' n' c'], .int .i64 er])) w5 := by
  refine ⟨b, A, n, c, b', A', n', c', er, rfl, ?_, hb⟩
  rcases hc with ⟨h1, h2, rfl, rfl⟩ | ⟨h1, h2, rfl, rfl⟩
  · rw [sg_zero] at hq hr
    exact .inl ⟨by omega, h2, hq, hr⟩
  · subst hs ht hm hk
    exact .inr ⟨by omega, h2, hq, hr⟩

set_option maxRecDepth 100000 in
set_option maxHeartbeats 2000000 in
theorem equo_any (s t : Bool) (A B : Option Addr) (ca cb : Nat) (xs ys : List Nat) (w : World) (ha : Rd w A xs) (hb : Rd w B ys) (hx : Can xs) (hy : Can ys) (hca : xs.length ≤ ca) (hcb : ys.length ≤ cb) (hcam : ca ≤ 9223372036854775807) (hcbm : cb ≤ 9223372036854775807)
    (hxl : xs.length ≤ 64) (hyl : ys.length ≤ 64) (x y : Int) (hs : s = decide (x < 0)) (ht : t = decide (y < 0)) (hxv : val xs = x.natAbs) (hyv : val ys = y.natAbs) :
    Calls Tryz.prog 106 #[.agg #[.bool s, .slice A xs.length ca], .agg #[.bool t, .slice B ys.length cb]] w (RetQ w x y) := by
  obtain ⟨hb0, x0, y0, z0, v0⟩ := new4 w s t A B xs.length ca ys.length cb
  have HB0 := Lib.hid hb0
  have X0 := Lib.hid x0
  have Y0 := Lib.hid y0
  have Z0 := Lib.hid z0
  have V0 := Lib.hid v0
  have H1 := Lib.hid (div_any A B ca cb xs ys _ (ha.below hb0) (hb.below hb0) hx.1 hy.1 hca hcb hcam hcbm)
  have NX := Lib.hid (not_big_len hx hxl)
  have NY := Lib.hid (not_big_len hy hyl)
  have HS := Lib.hid hs
  have HT := Lib.hid ht
  have HXV := Lib.hid hxv
  have HYV := Lib.hid hyv
  clear hb0 x0 y0 z0 v0 ha hb hx hy hs ht hxv hyv
  go_enter Tryz.func106, Tryz.ntmps106
  go_wp2_with fail
  refine H1.out.mono ?_
  intro e w1 hans
  obtain ⟨A1, c1, r1, A2, c2, r2, er, rfl, ⟨a1, a2, a3, a4⟩, ⟨b1, b2, b3, b4⟩, hcase, hb1⟩ := div_open hans NX.out NY.out
  have X1 := Lib.hid (X0.out.below hb1).drew
  have Y1 := Lib.hid (Y0.out.below hb1).drew
  have Z1 := Lib.hid (Z0.out.below hb1).drew
  have V1 := Lib.hid (V0.out.below hb1).drew
  have HB1 := Lib.hid (HB0.out.trans (hb1.mono HB0.out.size)).drew
  have S1 := Lib.hid (signed_num (!(s == t)) A1 c1 r1 w1.drew a1 a2 (a3.drew) a4)
  have R3 := Lib.hid b3.drew
  have R4 := Lib.hid b4
  have HC := Lib.hid hcase
  clear hans hb1 a3 a4 b3 b4 hcase
  go_wp2
  go_region_held3 (fun W => W.cell? ⟨w.heap.size, 0, none⟩ = some (.bool s) ∧ W.cell? ⟨w.heap.size + 1, 0, none⟩ = some (.bool t))
    ((refine ⟨Bx.c0 (A := A) (n := xs.length) (c := ca) ?_, Bx.c0 (A := B) (n := ys.length) (c := cb) ?_⟩ <;> (repeat' (first | (with_reducible exact Hid.out (by assumption)) | refine Bx.set ?_ _ (by simp <;> omega)))))
    (first
      | (go_at_call 116; (with_reducible refine S1.out.mono ?_); rintro e w2 ⟨A3, n3, c3, rfl, hv, hb2⟩; have X2 := Lib.hid (X1.out.below hb2); have Y2 := Lib.hid (Y1.out.below hb2); have Z2 := Lib.hid (Z1.out.below hb2); have V2 := Lib.hid (V1.out.below hb2); have HB2 := Lib.hid (HB1.out.trans (hb2.mono HB1.out.size)); have S2 := Lib.hid (signed_num s A2 c2 r2 w2 b1 b2 (R3.out.below hb2) R4.out); have HV2 := Lib.hid hv; clear hv hb2)
      | (go_at_call 116; (with_reducible refine S2.out.mono ?_); rintro e w3 ⟨A4, n4, c4, rfl, hv, hb3⟩; have X3 := Lib.hid (X2.out.below hb3); have Y3 := Lib.hid (Y2.out.below hb3); have Z3 := Lib.hid (Z2.out.below hb3); have V3 := Lib.hid (V2.out.below hb3); have HB3 := Lib.hid (HB2.out.trans (hb3.mono HB2.out.size)); have HV3 := Lib.hid (HV2.out.keep hb3); have HR3 := Lib.hid hv; obtain ⟨q0, q1, z0, z1, zl⟩ := Z3.out.facts; obtain ⟨u0, u1, v0, v1, vl⟩ := V3.out.facts; clear hv hb3))
  all_goals
    first
    | (obtain ⟨W4, hW4, Z4, hb4, hv4, -, hx4, -⟩ := stored_world Z3.out HB3.out (by omega) (decide (sg (!(s == t)) (val r1) < 0)) A3 n3 c3
       rw [hW4]
       obtain ⟨W5, hW5, V5, hb5, hv5, -, hx5, -⟩ := stored_world (hx4 _ _ _ _ _ (by omega) V3.out) hb4 (by omega) (decide (sg s (val r2) < 0)) A4 n4 c4
       rw [hW5]
       have Z5 := hx5 _ _ _ _ _ (by omega) Z4)
    | (obtain ⟨W4, hW4, V4, hb4, hv4, -, hx4, -⟩ := stored_world V3.out HB3.out (by omega) (decide (sg s (val r2) < 0)) A4 n4 c4
       rw [hW4]
       obtain ⟨W5, hW5, Z5, hb5, hv5, -, hx5, -⟩ := stored_world (hx4 _ _ _ _ _ (by omega) Z3.out) hb4 (by omega) (decide (sg (!(s == t)) (val r1) < 0)) A3 n3 c3
       rw [hW5]
       have V5 := hx5 _ _ _ _ _ (by omega) V4)
    have HQ5 := Lib.hid (hv5 _ _ (hv4 _ _ HV3.out))
    have HR5 := Lib.hid (hv5 _ _ (hv4 _ _ HR3.out))
    obtain ⟨d0, d1, -, -, -⟩ := Z5.facts
    obtain ⟨f0, f1, -, -, -⟩ := V5.facts
    have HB5 := Lib.hid hb5
    clear hW4 hW5 hx4 hx5 hv4 hv5 hb4 hb5 Z5 V5 q0 q1 z0 z1 zl u0 u1 v0 v1 vl
    go_wp2
    refine bodyPost_ret (v := .tuple #[.agg #[.bool (decide (sg (!(s == t)) (val r1) < 0)), .slice A3 n3 c3], .agg #[.bool (decide (sg s (val r2) < 0)), .slice A4 n4 c4], .int .i64 er]) (by simp [results, Tryz.results106, go_sem, d0, d1, f0, f1]) rfl ?_
    exact retQ_mk HQ5.out HR5.out HB5.out HC.out HS.out HT.out HXV.out HYV.out

end LM
end Go.Proofs.YtpnjddfnlaonoaaGreatDoor
