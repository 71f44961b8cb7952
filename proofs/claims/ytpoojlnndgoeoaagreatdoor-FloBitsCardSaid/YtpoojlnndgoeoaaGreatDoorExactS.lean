/- Walks for sums: the document's made, Plus, Neg, Times, Same, capped, Add, Sub, Mul, Cmp; exact's Sub; blocks and numbers by the list. -/
import Derived.Test.YtpoojlnndgoeoaaGreatDoorLimbT
import Derived.Test.YtpoojlnndgoeoaaGreatDoorLimbU
import Derived.Test.YtpoojlnndgoeoaaGreatDoorLimbY
import Derived.Test.YtpoojlnndgoeoaaGreatDoorExactAlive
import Derived.Deep.RegionHeld3
import Derived.Test.YtpoojlnndgoeoaaGreatDoorExactF
import Derived.Test.YtpoojlnndgoeoaaGreatDoorExactR
import Derived.Test.YtpoojlnndgoeoaaGreatDoorLimbDivAny
namespace Go.Proofs.YtpoojlnndgoeoaaGreatDoor
open Go.RowKit
namespace LM
set_option linter.unusedVariables false

/-- small enough for the document's own sums and products -/
def FitI (z : Int) : Prop := z.natAbs < 4294967296 ^ 130
theorem fit_of {z : Int} (h : ¬ BigI z) : FitI z := by
  have h1 : z.natAbs < 4294967296 ^ 64 := Nat.lt_of_not_le h
  exact Nat.lt_of_lt_of_le h1 (Nat.pow_le_pow_right (by decide) (by decide))
theorem fit_len {r : List Nat} {z : Int} (hc : Can r) (hv : val r = z.natAbs) (hf : FitI z) : r.length ≤ 130 := by
  rcases Nat.lt_or_ge 130 r.length with h | h
  · have := (can_len hc 130).1 h
    rw [hv] at this
    exact absurd hf (by unfold FitI; omega)
  · exact h
theorem fit_neg {z : Int} (h : FitI z) : FitI (-z) := by unfold FitI; rw [Int.natAbs_neg]; exact h
theorem fit_mul {x y : Int} (hx : ¬ BigI x) (hy : ¬ BigI y) : FitI (x * y) := by
  have h1 : x.natAbs < 4294967296 ^ 64 := Nat.lt_of_not_le hx
  have h2 : y.natAbs < 4294967296 ^ 64 := Nat.lt_of_not_le hy
  unfold FitI
  rw [Int.natAbs_mul]
  have h3 : x.natAbs * y.natAbs < 4294967296 ^ 64 * 4294967296 ^ 64 := Nat.mul_lt_mul'' h1 h2
  rw [← Nat.pow_add] at h3
  exact Nat.lt_of_lt_of_le h3 (Nat.pow_le_pow_right (by decide) (by decide))

theorem newc1 (w : World) : Below w.heap.size w (w.alloc (.cells #[.bool false, .slice none 0 0] 41)) ∧ Bx (w.alloc (.cells #[.bool false, .slice none 0 0] 41)) w.heap.size false none 0 0 :=
  ⟨(Below.refl _ w).alloc (Nat.le_refl _) _, Bx.new w false none 0 0⟩
/-- a call that answers a whole number in new memory, whatever its room -/
def RetR (w : World) (z : Int) (e : Ending) (w' : World) : Prop := ∃ s A n c, e = .returned (.agg #[.bool s, .slice A n c]) ∧ IntR w' (.agg #[.bool s, .slice A n c]) z ∧ Below w.heap.size w w'
theorem IntR.bx {w : World} {v : Value} {z : Int} (h : IntR w v z) : ∃ A n c, v = .agg #[.bool (decide (z < 0)), .slice A n c] := by
  obtain ⟨A, c, r, e, _⟩ := h
  exact ⟨A, _, c, e⟩
theorem IntR.parts {w : World} {b : Bool} {A : Option Addr} {n c : Nat} {z : Int} (h : IntR w (.agg #[.bool b, .slice A n c]) z) : b = decide (z < 0) ∧ (n = 0 ↔ z = 0) ∧ (FitI z → n ≤ 130) ∧ (64 < n ↔ BigI z) := by
  obtain ⟨A', c', r, e, h3, h4, h5⟩ := h
  simp only [Value.agg.injEq, Array.mk.injEq, List.cons.injEq, Value.bool.injEq, Value.slice.injEq, and_true] at e
  obtain ⟨rfl, rfl, rfl, rfl⟩ := e
  refine ⟨rfl, by rw [can_zero h4, h5]; omega, fun hf => fit_len h4 h5 hf, ?_⟩
  unfold BigI
  rw [big_iff h4, h5]
theorem IntR.alloc {w : World} {v : Value} {z : Int} (h : IntR w v z) (o : Obj) : IntR (w.alloc o) v z := h.keep ((Below.refl _ _).alloc (Nat.le_refl _) _)
theorem IntR.drew {w : World} {v : Value} {z : Int} (h : IntR w v z) : IntR w.drew v z := h.keep (Below.refl _ _).drew

set_option maxRecDepth 100000 in
set_option maxHeartbeats 1000000 in
theorem rmade_nil (neg : Bool) (A : Option Addr) (c : Nat) (w : World) :
    Calls Tryz.prog 99 #[.bool neg, .slice A 0 c] w (RetR w 0) := by
  obtain ⟨hb0, x0⟩ := newc1 w
  have HB0 := Lib.hid hb0
  have X0 := Lib.hid x0
  clear hb0 x0
  go_enter Tryz.func99, Tryz.ntmps99
  go_wp2
  refine bodyPost_ret (v := .agg #[.bool false, .slice none 0 0]) (by simp [results, Tryz.results99, go_sem]) rfl ?_
  exact ⟨_, _, _, _, rfl, ⟨none, 0, [], rfl, Rd.nil, can_nil, rfl⟩, HB0.out⟩

set_option maxRecDepth 100000 in
set_option maxHeartbeats 1000000 in
theorem rmade_some (neg : Bool) (A : Option Addr) (c : Nat) (r : List Nat) (w : World) (h0 : 0 < r.length) (hl : r.length ≤ 10000) (h3 : Rd w A r) (h4 : Can r) :
    Calls Tryz.prog 99 #[.bool neg, .slice A r.length c] w (RetR w (sg neg (val r))) := by
  have hz : ((r.length : Int) == 0) = false := by simp; intro h; rw [h] at h0; simp at h0
  have HR := Lib.hid (h3.alloc (.cells #[.bool neg, .slice A r.length c] 41))
  have HP := Lib.hid ((can_pos h4).1 h0)
  have HC := Lib.hid h4
  clear h0 h3 h4
  go_enter Tryz.func99, Tryz.ntmps99
  go_wp2
  refine bodyPost_ret (v := .agg #[.bool neg, .slice A r.length c]) (by simp [results, Tryz.results99, go_sem]) rfl ?_
  refine ⟨_, _, _, _, rfl, ⟨A, c, r, ?_, HR.out, HC.out, (sg_abs _ _).symm⟩, (Below.refl _ _).alloc (Nat.le_refl _) _⟩
  rw [sg_neg, decide_eq_true HP.out, Bool.and_true]

theorem rmade_num (neg : Bool) (A : Option Addr) (c : Nat) (r : List Nat) (w : World) (hl : r.length ≤ 10000) (h3 : Rd w A r) (h4 : Can r) :
    Calls Tryz.prog 99 #[.bool neg, .slice A r.length c] w (RetR w (sg neg (val r))) := by
  rcases Nat.eq_zero_or_pos r.length with h | h
  · have hv : val r = 0 := (can_zero h4).1 h
    rw [h, hv, sg_zero]
    exact rmade_nil neg A c w
  · exact rmade_some neg A c r w h hl h3 h4

theorem numr_len {r : List Nat} (hc : Can r) (h : val r < 4294967296 ^ 200) : r.length ≤ 10000 := by
  rcases Nat.lt_or_ge 200 r.length with h1 | h1
  · exact absurd ((can_len hc 200).1 h1) (by omega)
  · omega
theorem sum_len {xs ys : List Nat} (hx : Can xs) (hy : Can ys) (hxl : xs.length ≤ 130) (hyl : ys.length ≤ 130) : val xs + val ys < 4294967296 ^ 200 := by
  have h1 := val_len_lt hx.1 hxl
  have h2 := val_len_lt hy.1 hyl
  have h3 : 4294967296 ^ 130 + 4294967296 ^ 130 ≤ 4294967296 ^ 200 := by
    have h4 : 4294967296 ^ 131 ≤ 4294967296 ^ 200 := Nat.pow_le_pow_right (by decide) (by decide)
    have h5 : 4294967296 ^ 131 = 4294967296 ^ 130 * 4294967296 := Nat.pow_succ ..
    generalize 4294967296 ^ 200 = Q at *
    generalize 4294967296 ^ 131 = R at *
    generalize 4294967296 ^ 130 = P at *
    omega
  generalize 4294967296 ^ 200 = Q at *
  generalize 4294967296 ^ 130 = P at *
  omega
theorem prod_len {xs ys : List Nat} (hx : Can xs) (hy : Can ys) (hxl : xs.length ≤ 64) (hyl : ys.length ≤ 64) : val xs * val ys < 4294967296 ^ 200 := by
  have h3 : val xs * val ys < 4294967296 ^ 64 * 4294967296 ^ 64 := Nat.mul_lt_mul'' (val_len_lt hx.1 hxl) (val_len_lt hy.1 hyl)
  rw [← Nat.pow_add] at h3
  exact Nat.lt_of_lt_of_le h3 (Nat.pow_le_pow_right (by decide) (by decide))

set_option maxRecDepth 100000 in
set_option maxHeartbeats 1000000 in
theorem rplus_same (s t : Bool) (A B : Option Addr) (ca cb : Nat) (xs ys : List Nat) (w : World) (ha : Rd w A xs) (hb : Rd w B ys) (hx : Can xs) (hy : Can ys) (hxl : xs.length ≤ 130) (hyl : ys.length ≤ 130) (hst : t = s) :
    Calls Tryz.prog 67 #[.agg #[.bool s, .slice A xs.length ca], .agg #[.bool t, .slice B ys.length cb]] w (RetR w (sg s (val xs + val ys))) := by
  obtain ⟨hb0, x0, y0, z0⟩ := new3 w s t A B xs.length ca ys.length cb
  have HB0 := Lib.hid hb0
  have X0 := Lib.hid x0
  have Y0 := Lib.hid y0
  have Z0 := Lib.hid z0
  have HA := Lib.hid (ha.below hb0)
  have HBB := Lib.hid (hb.below hb0)
  have HX := Lib.hid hx
  have HY := Lib.hid hy
  have HST := Lib.hid hst
  have HLEN := Lib.hid (sum_len hx hy hxl hyl)
  clear hb0 x0 y0 z0 ha hb hx hy hst
  go_enter Tryz.func67, Tryz.ntmps67
  have heq : (s == t) = true := by simp [HST.out]
  go_wp2
  have HB1 := Lib.hid HB0.out.drew
  have X1 := Lib.hid X0.out.drew
  have Y1 := Lib.hid Y0.out.drew
  have Z1 := Lib.hid Z0.out.drew
  have H1 := Lib.hid (rplus_any A B ca cb xs ys _ (HA.out.drew) (HBB.out.drew) HX.out.1 HY.out.1 (by omega) (by omega))
  go_region_held3 (fun W => W.cell? ⟨w.heap.size, 0, none⟩ = some (.bool s) ∧ W.cell? ⟨w.heap.size, 1, none⟩ = some (.slice A xs.length ca) ∧ W.cell? ⟨w.heap.size + 1, 0, none⟩ = some (.bool t) ∧ W.cell? ⟨w.heap.size + 1, 1, none⟩ = some (.slice B ys.length cb))
    ((refine ⟨Bx.c0 (A := A) (n := xs.length) (c := ca) ?_, Bx.c1 (b := s) ?_, Bx.c0 (A := B) (n := ys.length) (c := cb) ?_, Bx.c1 (b := t) ?_⟩ <;> (repeat' (first | (with_reducible exact Hid.out (by assumption)) | refine Bx.set ?_ _ (by simp <;> omega)))))
    (first
      | (go_at_call 89; (with_reducible refine H1.out.mono ?_); rintro e w2 ⟨⟨v, rfl, A2, c2, r2, rfl, hn2, hrd2, hcan2, hval2⟩, hb2⟩; have X2 := Lib.hid (X1.out.below hb2); have Y2 := Lib.hid (Y1.out.below hb2); have Z2 := Lib.hid (Z1.out.below hb2); have HB2 := Lib.hid (HB1.out.trans (hb2.mono HB1.out.size)); have HM := Lib.hid (rmade_num (s) A2 c2 r2 w2 (numr_len hcan2 (by rw [hval2]; exact HLEN.out)) hrd2 hcan2); rw [hval2] at HM; clear hn2 hrd2 hcan2 hval2 hb2)
      | (go_at_call 99; (with_reducible refine HM.out.mono ?_); rintro e w3 ⟨s3, A3, n3, c3, rfl, hv3, hb3⟩; have X3 := Lib.hid (X2.out.below hb3); have Y3 := Lib.hid (Y2.out.below hb3); have Z3 := Lib.hid (Z2.out.below hb3); obtain ⟨q0, q1, z0, z1, zl⟩ := Z3.out.facts; have HB3 := Lib.hid (HB2.out.trans (hb3.mono HB2.out.size)); have HV3 := Lib.hid hv3; clear hb3 hv3))
  all_goals
    obtain ⟨W4, hW4, Z, hb4, -, hv4, -, -⟩ := stored_world Z3.out HB3.out (by omega) s3 A3 n3 c3
    rw [hW4]
    have HV4 := Lib.hid (hv4 _ _ HV3.out)
    obtain ⟨c0, c1, -, -, -⟩ := Z.facts
    clear q0 q1 z0 z1 zl hW4 hv4
    go_wp2
    refine bodyPost_ret (v := .agg #[.bool s3, .slice A3 n3 c3]) (by simp [results, Tryz.results67, go_sem, c0, c1]) rfl ?_
    exact ⟨_, _, _, _, rfl, HV4.out, hb4⟩

set_option maxRecDepth 100000 in
set_option maxHeartbeats 1000000 in
theorem rplus_ge (s t : Bool) (A B : Option Addr) (ca cb : Nat) (xs ys : List Nat) (w : World) (ha : Rd w A xs) (hb : Rd w B ys) (hx : Can xs) (hy : Can ys) (hxl : xs.length ≤ 130) (hyl : ys.length ≤ 130) (hst : ¬ s = t) (hle : val ys ≤ val xs) :
    Calls Tryz.prog 67 #[.agg #[.bool s, .slice A xs.length ca], .agg #[.bool t, .slice B ys.length cb]] w (RetR w (sg s (val xs - val ys))) := by
  obtain ⟨hb0, x0, y0, z0⟩ := new3 w s t A B xs.length ca ys.length cb
  have HB0 := Lib.hid hb0
  have X0 := Lib.hid x0
  have Y0 := Lib.hid y0
  have Z0 := Lib.hid z0
  have HA := Lib.hid (ha.below hb0)
  have HBB := Lib.hid (hb.below hb0)
  have HX := Lib.hid hx
  have HY := Lib.hid hy
  have HST := Lib.hid hst
  have HLE := Lib.hid hle
  have HLEN : Hid (val xs - val ys < 4294967296 ^ 200) := Lib.hid (Nat.lt_of_le_of_lt (Nat.le_trans (Nat.sub_le _ _) (Nat.le_add_right (val xs) (val ys))) (sum_len hx hy hxl hyl))
  clear hb0 x0 y0 z0 ha hb hx hy hst hle
  go_enter Tryz.func67, Tryz.ntmps67
  have heq : (s == t) = false := by simp; exact HST.out
  obtain ⟨o, hoc, ho⟩ : ∃ o : Int, cmpN (val xs) (val ys) = o ∧ decide (0 ≤ o) = true := ⟨_, rfl, by unfold cmpN; have := HLE.out; split <;> (try split) <;> first | omega | decide⟩
  have HC := Lib.hid (rcmp_any A B ca cb xs ys _ HA.out HBB.out HX.out.1 HY.out.1 (by omega) (by omega))
  rw [hoc] at HC
  clear hoc
  go_wp2_with fail
  refine HC.out.mono ?_
  rintro e wq ⟨rfl, rfl⟩
  go_wp2
  have HB1 := Lib.hid HB0.out.drew
  have X1 := Lib.hid X0.out.drew
  have Y1 := Lib.hid Y0.out.drew
  have Z1 := Lib.hid Z0.out.drew
  have H1 := Lib.hid (rminus_any A B ca cb xs ys _ (HA.out.drew) (HBB.out.drew) HX.out.1 HY.out.1 (by omega) (by omega) HLE.out)
  go_region_held3 (fun W => W.cell? ⟨w.heap.size, 0, none⟩ = some (.bool s) ∧ W.cell? ⟨w.heap.size, 1, none⟩ = some (.slice A xs.length ca) ∧ W.cell? ⟨w.heap.size + 1, 0, none⟩ = some (.bool t) ∧ W.cell? ⟨w.heap.size + 1, 1, none⟩ = some (.slice B ys.length cb))
    ((refine ⟨Bx.c0 (A := A) (n := xs.length) (c := ca) ?_, Bx.c1 (b := s) ?_, Bx.c0 (A := B) (n := ys.length) (c := cb) ?_, Bx.c1 (b := t) ?_⟩ <;> (repeat' (first | (with_reducible exact Hid.out (by assumption)) | refine Bx.set ?_ _ (by simp <;> omega)))))
    (first
      | (go_at_call 101; (with_reducible refine H1.out.mono ?_); rintro e w2 ⟨⟨v, rfl, A2, c2, r2, rfl, hn2, hrd2, hcan2, hval2⟩, hb2⟩; have X2 := Lib.hid (X1.out.below hb2); have Y2 := Lib.hid (Y1.out.below hb2); have Z2 := Lib.hid (Z1.out.below hb2); have HB2 := Lib.hid (HB1.out.trans (hb2.mono HB1.out.size)); have HM := Lib.hid (rmade_num (s) A2 c2 r2 w2 (numr_len hcan2 (by rw [hval2]; exact HLEN.out)) hrd2 hcan2); rw [hval2] at HM; clear hn2 hrd2 hcan2 hval2 hb2)
      | (go_at_call 99; (with_reducible refine HM.out.mono ?_); rintro e w3 ⟨s3, A3, n3, c3, rfl, hv3, hb3⟩; have X3 := Lib.hid (X2.out.below hb3); have Y3 := Lib.hid (Y2.out.below hb3); have Z3 := Lib.hid (Z2.out.below hb3); obtain ⟨q0, q1, z0, z1, zl⟩ := Z3.out.facts; have HB3 := Lib.hid (HB2.out.trans (hb3.mono HB2.out.size)); have HV3 := Lib.hid hv3; clear hb3 hv3))
  all_goals
    obtain ⟨W4, hW4, Z, hb4, -, hv4, -, -⟩ := stored_world Z3.out HB3.out (by omega) s3 A3 n3 c3
    rw [hW4]
    have HV4 := Lib.hid (hv4 _ _ HV3.out)
    obtain ⟨c0, c1, -, -, -⟩ := Z.facts
    clear q0 q1 z0 z1 zl hW4 hv4
    go_wp2
    refine bodyPost_ret (v := .agg #[.bool s3, .slice A3 n3 c3]) (by simp [results, Tryz.results67, go_sem, c0, c1]) rfl ?_
    exact ⟨_, _, _, _, rfl, HV4.out, hb4⟩

set_option maxRecDepth 100000 in
set_option maxHeartbeats 1000000 in
theorem rplus_lt (s t : Bool) (A B : Option Addr) (ca cb : Nat) (xs ys : List Nat) (w : World) (ha : Rd w A xs) (hb : Rd w B ys) (hx : Can xs) (hy : Can ys) (hxl : xs.length ≤ 130) (hyl : ys.length ≤ 130) (hst : ¬ s = t) (hle : val xs < val ys) :
    Calls Tryz.prog 67 #[.agg #[.bool s, .slice A xs.length ca], .agg #[.bool t, .slice B ys.length cb]] w (RetR w (sg t (val ys - val xs))) := by
  obtain ⟨hb0, x0, y0, z0⟩ := new3 w s t A B xs.length ca ys.length cb
  have HB0 := Lib.hid hb0
  have X0 := Lib.hid x0
  have Y0 := Lib.hid y0
  have Z0 := Lib.hid z0
  have HA := Lib.hid (ha.below hb0)
  have HBB := Lib.hid (hb.below hb0)
  have HX := Lib.hid hx
  have HY := Lib.hid hy
  have HST := Lib.hid hst
  have HLE := Lib.hid hle
  have HLEN : Hid (val ys - val xs < 4294967296 ^ 200) := Lib.hid (Nat.lt_of_le_of_lt (Nat.le_trans (Nat.sub_le _ _) (Nat.le_add_left (val ys) (val xs))) (sum_len hx hy hxl hyl))
  clear hb0 x0 y0 z0 ha hb hx hy hst hle
  go_enter Tryz.func67, Tryz.ntmps67
  have heq : (s == t) = false := by simp; exact HST.out
  obtain ⟨o, hoc, ho⟩ : ∃ o : Int, cmpN (val xs) (val ys) = o ∧ decide (0 ≤ o) = false := ⟨_, rfl, by unfold cmpN; have := HLE.out; split <;> (try split) <;> first | omega | decide⟩
  have HC := Lib.hid (rcmp_any A B ca cb xs ys _ HA.out HBB.out HX.out.1 HY.out.1 (by omega) (by omega))
  rw [hoc] at HC
  clear hoc
  go_wp2_with fail
  refine HC.out.mono ?_
  rintro e wq ⟨rfl, rfl⟩
  go_wp2
  have HB1 := Lib.hid HB0.out.drew
  have X1 := Lib.hid X0.out.drew
  have Y1 := Lib.hid Y0.out.drew
  have Z1 := Lib.hid Z0.out.drew
  have H1 := Lib.hid (rminus_any B A cb ca ys xs _ (HBB.out.drew) (HA.out.drew) HY.out.1 HX.out.1 (by omega) (by omega) (Nat.le_of_lt HLE.out))
  go_region_held3 (fun W => W.cell? ⟨w.heap.size, 0, none⟩ = some (.bool s) ∧ W.cell? ⟨w.heap.size, 1, none⟩ = some (.slice A xs.length ca) ∧ W.cell? ⟨w.heap.size + 1, 0, none⟩ = some (.bool t) ∧ W.cell? ⟨w.heap.size + 1, 1, none⟩ = some (.slice B ys.length cb))
    ((refine ⟨Bx.c0 (A := A) (n := xs.length) (c := ca) ?_, Bx.c1 (b := s) ?_, Bx.c0 (A := B) (n := ys.length) (c := cb) ?_, Bx.c1 (b := t) ?_⟩ <;> (repeat' (first | (with_reducible exact Hid.out (by assumption)) | refine Bx.set ?_ _ (by simp <;> omega)))))
    (first
      | (go_at_call 101; (with_reducible refine H1.out.mono ?_); rintro e w2 ⟨⟨v, rfl, A2, c2, r2, rfl, hn2, hrd2, hcan2, hval2⟩, hb2⟩; have X2 := Lib.hid (X1.out.below hb2); have Y2 := Lib.hid (Y1.out.below hb2); have Z2 := Lib.hid (Z1.out.below hb2); have HB2 := Lib.hid (HB1.out.trans (hb2.mono HB1.out.size)); have HM := Lib.hid (rmade_num (t) A2 c2 r2 w2 (numr_len hcan2 (by rw [hval2]; exact HLEN.out)) hrd2 hcan2); rw [hval2] at HM; clear hn2 hrd2 hcan2 hval2 hb2)
      | (go_at_call 99; (with_reducible refine HM.out.mono ?_); rintro e w3 ⟨s3, A3, n3, c3, rfl, hv3, hb3⟩; have X3 := Lib.hid (X2.out.below hb3); have Y3 := Lib.hid (Y2.out.below hb3); have Z3 := Lib.hid (Z2.out.below hb3); obtain ⟨q0, q1, z0, z1, zl⟩ := Z3.out.facts; have HB3 := Lib.hid (HB2.out.trans (hb3.mono HB2.out.size)); have HV3 := Lib.hid hv3; clear hb3 hv3))
  all_goals
    obtain ⟨W4, hW4, Z, hb4, -, hv4, -, -⟩ := stored_world Z3.out HB3.out (by omega) s3 A3 n3 c3
    rw [hW4]
    have HV4 := Lib.hid (hv4 _ _ HV3.out)
    obtain ⟨c0, c1, -, -, -⟩ := Z.facts
    clear q0 q1 z0 z1 zl hW4 hv4
    go_wp2
    refine bodyPost_ret (v := .agg #[.bool s3, .slice A3 n3 c3]) (by simp [results, Tryz.results67, go_sem, c0, c1]) rfl ?_
    exact ⟨_, _, _, _, rfl, HV4.out, hb4⟩

theorem sg_self2 {z : Int} {n : Nat} (h : n = z.natAbs) : sg (decide (z < 0)) n = z := by rw [h, sg_of]
theorem rplus_int {va vb : Value} {x y : Int} {w : World} (ha : IntR w va x) (hb : IntR w vb y) (hx : FitI x) (hy : FitI y) : Calls Tryz.prog 67 #[va, vb] w (RetR w (x + y)) := by
  obtain ⟨A, ca, xs, rfl, h3, h4, h5⟩ := ha
  obtain ⟨B, cb, ys, rfl, k3, k4, k5⟩ := hb
  have e1 := sg_self2 h5
  have e2 := sg_self2 k5
  have l1 := fit_len h4 h5 hx
  have l2 := fit_len k4 k5 hy
  by_cases hs : decide (x < 0) = decide (y < 0)
  · have h := rplus_same _ _ A B ca cb xs ys w h3 k3 h4 k4 l1 l2 hs.symm
    rw [← sg_add_same, e1] at h
    rw [hs, e2] at h
    rw [hs]
    exact h
  · have hxy : x + y = sg (decide (x < 0)) (val xs) + sg (decide (y < 0)) (val ys) := by rw [e1, e2]
    rw [hxy]
    rcases Nat.lt_or_ge (val xs) (val ys) with h | h
    · rw [sg_add_lt _ _ _ _ hs (Nat.le_of_lt h)]
      exact rplus_lt _ _ A B ca cb xs ys w h3 k3 h4 k4 l1 l2 hs h
    · rw [sg_add_ge _ _ _ _ hs h]
      exact rplus_ge _ _ A B ca cb xs ys w h3 k3 h4 k4 l1 l2 hs h
set_option maxRecDepth 100000 in
set_option maxHeartbeats 1000000 in
theorem rneg_any (s : Bool) (A : Option Addr) (c : Nat) (r : List Nat) (w : World) (h3 : Rd w A r) (h4 : Can r) (h5 : r.length ≤ 10000) :
    Calls Tryz.prog 68 #[.agg #[.bool s, .slice A r.length c]] w (RetR w (sg (!s) (val r))) := by
  obtain ⟨hb0, x0, y0⟩ := new2 w s A r.length c
  have HB0 := Lib.hid hb0
  have Y0 := Lib.hid y0
  have H1 := Lib.hid (rmade_num (!s) A c r _ h5 (h3.below hb0) h4)
  clear hb0 x0 y0 h3 h4
  go_enter Tryz.func68, Tryz.ntmps68
  go_wp2_with fail
  refine H1.out.mono ?_
  rintro e w3 ⟨s3, A3, n3, c3, rfl, hv3, hb3⟩
  have Z3 := Lib.hid (Y0.out.below hb3)
  obtain ⟨q0, q1, z0, z1, zl⟩ := Z3.out.facts
  have HB3 := Lib.hid (HB0.out.trans (hb3.mono HB0.out.size))
  have HV3 := Lib.hid hv3
  clear hb3 hv3
  go_wp2
  obtain ⟨W4, hW4, Z, hb4, -, hv4, -, -⟩ := stored_world Z3.out HB3.out (by omega) s3 A3 n3 c3
  rw [hW4]
  have HV4 := Lib.hid (hv4 _ _ HV3.out)
  obtain ⟨c0, c1, -, -, -⟩ := Z.facts
  clear q0 q1 z0 z1 zl hW4 hv4
  refine bodyPost_ret (v := .agg #[.bool s3, .slice A3 n3 c3]) (by simp [results, Tryz.results68, go_sem, c0, c1]) rfl ?_
  exact ⟨_, _, _, _, rfl, HV4.out, hb4⟩
theorem rneg_int {va : Value} {x : Int} {w : World} (ha : IntR w va x) (hx : FitI x) : Calls Tryz.prog 68 #[va] w (RetR w (-x)) := by
  obtain ⟨A, ca, xs, rfl, h3, h4, h5⟩ := ha
  have h := rneg_any (decide (x < 0)) A ca xs w h3 h4 (by have := fit_len h4 h5 hx; omega)
  rw [← sg_flip, h5, sg_of] at h
  exact h


theorem big_neg {z : Int} (h : ¬ BigI z) : ¬ BigI (-z) := by unfold BigI; rw [Int.natAbs_neg]; exact h

/-- the document's answer, capped -/
def RetC (w : World) (z : Int) (e : Ending) (w' : World) : Prop := ∃ s A n c er, e = .returned (.tuple #[.agg #[.bool s, .slice A n c], .int .i64 er]) ∧
  ((BigI z ∧ er = 11 ∧ IntR w' (.agg #[.bool s, .slice A n c]) 0) ∨ (¬ BigI z ∧ er = 0 ∧ IntR w' (.agg #[.bool s, .slice A n c]) z)) ∧ Below w.heap.size w w'
theorem intR_nil (w : World) : IntR w (.agg #[.bool false, .slice none 0 0]) 0 := ⟨none, 0, [], rfl, Rd.nil, can_nil, rfl⟩

set_option maxRecDepth 100000 in
set_option maxHeartbeats 1000000 in
theorem rsame2_diff (s t : Bool) (hst : ¬ s = t) (A B : Option Addr) (ca cb : Nat) (xs ys : List Nat) (w : World) (ha : Rd w A xs) (hb : Rd w B ys) (hxl : xs.length ≤ 1000000) :
    Calls Tryz.prog 30 #[.agg #[.bool s, .slice A xs.length ca], .agg #[.bool t, .slice B ys.length cb]] w fun e w' => e = .returned (.bool (false)) ∧ Below w.heap.size w w' := by
  have heq : (s == t) = false := by simp; exact hst
  obtain ⟨hb0, x0, y0⟩ := newp2 w s t A B xs.length ca ys.length cb
  have HB0 := Lib.hid hb0
  have H1 := Lib.hid (same_any A B ca cb xs ys _ (ha.below hb0) (hb.below hb0) hxl)
  clear hb0 x0 y0 ha hb hst
  go_enter Tryz.func30, Tryz.ntmps30
  go_wp2
  go_ret
  exact ⟨rfl, HB0.out⟩

set_option maxRecDepth 100000 in
set_option maxHeartbeats 1000000 in
theorem rsame2_same (s : Bool)  (A B : Option Addr) (ca cb : Nat) (xs ys : List Nat) (w : World) (ha : Rd w A xs) (hb : Rd w B ys) (hxl : xs.length ≤ 1000000) :
    Calls Tryz.prog 30 #[.agg #[.bool s, .slice A xs.length ca], .agg #[.bool s, .slice B ys.length cb]] w fun e w' => e = .returned (.bool (sameB xs ys)) ∧ Below w.heap.size w w' := by
  have heq : (s == s) = true := by simp
  obtain ⟨hb0, x0, y0⟩ := newp2 w s s A B xs.length ca ys.length cb
  have HB0 := Lib.hid hb0
  have H1 := Lib.hid (same_any A B ca cb xs ys _ (ha.below hb0) (hb.below hb0) hxl)
  clear hb0 x0 y0 ha hb
  go_enter Tryz.func30, Tryz.ntmps30
  go_wp2_with fail
  refine H1.out.mono ?_
  rintro e w2 ⟨rfl, hb2⟩
  have HB2 := Lib.hid (HB0.out.trans (hb2.mono HB0.out.size))
  clear hb2
  go_wp2
  go_ret
  exact ⟨rfl, HB2.out⟩

theorem rsame2_int {va vb : Value} {x y : Int} {w : World} (ha : IntR w va x) (hb : IntR w vb y) (hx : FitI x) : Calls Tryz.prog 30 #[va, vb] w fun e w' => e = .returned (.bool (decide (x = y))) ∧ Below w.heap.size w w' := by
  obtain ⟨A, ca, xs, rfl, h3, h4, h5⟩ := ha
  obtain ⟨B, cb, ys, rfl, k3, k4, k5⟩ := hb
  have l1 := fit_len h4 h5 hx
  by_cases hs : decide (x < 0) = decide (y < 0)
  · have h := rsame2_same (decide (x < 0)) A B ca cb xs ys w h3 k3 (by omega)
    have he : sameB xs ys = decide (x = y) := by
      unfold sameB
      refine decide_eq_decide.2 ⟨fun e => ?_, fun e => can_ext h4 k4 (by rw [h5, k5, e])⟩
      have e1 := sg_self2 h5
      have e2 := sg_self2 k5
      rw [← e1, ← e2, hs, e]
    rw [he] at h
    rw [← hs]
    exact h
  · have h := rsame2_diff (decide (x < 0)) (decide (y < 0)) hs A B ca cb xs ys w h3 k3 (by omega)
    rw [show decide (x = y) = false from decide_eq_false fun e => hs (by rw [e])]
    exact h
theorem fit_add {x y : Int} (hx : ¬ BigI x) (hy : ¬ BigI y) : FitI (x + y) := by
  have h1 : x.natAbs < 4294967296 ^ 64 := Nat.lt_of_not_le hx
  have h2 : y.natAbs < 4294967296 ^ 64 := Nat.lt_of_not_le hy
  have h3 : 4294967296 ^ 65 ≤ 4294967296 ^ 130 := Nat.pow_le_pow_right (by decide) (by decide)
  have h4 : (4294967296 : Nat) ^ 65 = 4294967296 ^ 64 * 4294967296 := Nat.pow_succ ..
  have h5 := Int.natAbs_add_le x y
  unfold FitI
  generalize 4294967296 ^ 130 = Q at *
  generalize 4294967296 ^ 65 = R at *
  generalize 4294967296 ^ 64 = P at *
  omega

set_option maxRecDepth 100000 in
set_option maxHeartbeats 1000000 in
theorem rcmp2_any (s t : Bool) (A B : Option Addr) (n ca m cb : Nat) (w : World) (x y : Int) (ha : IntR w (.agg #[.bool s, .slice A n ca]) x) (hb : IntR w (.agg #[.bool t, .slice B m cb]) y) (hx : ¬ BigI x) (hy : ¬ BigI y) :
    Calls Tryz.prog 36 #[.agg #[.bool s, .slice A n ca], .agg #[.bool t, .slice B m cb]] w fun e w' => e = .returned (.int .i64 (cmpI x y)) ∧ Below w.heap.size w w' := by
  obtain ⟨hb0, x0, y0⟩ := newp2 w s t A B n ca m cb
  have HB1 := Lib.hid hb0.drew
  have X1 := Lib.hid x0.drew
  have Y1 := Lib.hid y0.drew
  have VX1 := Lib.hid (ha.keep hb0).drew
  have H1 := Lib.hid (rneg_int (hb.keep hb0).drew (fit_of hy))
  obtain ⟨hbn, xn, yn, dn⟩ := new3 w s t A B n ca m cb
  have H1p := Lib.hid (rneg_int (hb.keep hbn).drew (fit_of hy))
  have HBN := Lib.hid hbn.drew
  have XN := Lib.hid xn.drew
  have YN := Lib.hid yn.drew
  have DN := Lib.hid dn.drew
  have VXN := Lib.hid (ha.keep hbn).drew
  have NX := Lib.hid hx
  have NY := Lib.hid hy
  clear hb0 x0 y0 ha hb hx hy hbn xn yn dn
  go_enter Tryz.func36, Tryz.ntmps36
  go_wp2
  go_region_held3 (fun W => W.cell? ⟨w.heap.size, 0, none⟩ = some (.bool s) ∧ W.cell? ⟨w.heap.size, 1, none⟩ = some (.slice A n ca) ∧ W.cell? ⟨w.heap.size + 1, 0, none⟩ = some (.bool t) ∧ W.cell? ⟨w.heap.size + 1, 1, none⟩ = some (.slice B m cb))
    ((refine ⟨Bx.c0 (A := A) (n := n) (c := ca) ?_, Bx.c1 (b := s) ?_, Bx.c0 (A := B) (n := m) (c := cb) ?_, Bx.c1 (b := t) ?_⟩ <;> (repeat' (first | (with_reducible exact Hid.out (by assumption)) | (with_reducible refine Bx.alloc ?_ _) | (with_reducible refine Bx.set ?_ _ (by simp <;> omega))))))
    (first
      | (go_at_call 68; (with_reducible refine H1.out.mono ?_); rintro e w2 ⟨s2, A2, n2, c2, rfl, hv2, hb2⟩; have X2 := Lib.hid (X1.out.below hb2); have Y2 := Lib.hid (Y1.out.below hb2); have ly2 := Y2.out.lt; have HB2 := Lib.hid (HB1.out.trans (hb2.mono HB1.out.size)); have H2 := Lib.hid (rplus_int (VX1.out.keep hb2) hv2 (fit_of NX.out) (fit_neg (fit_of NY.out))); have H2p := Lib.hid (rplus_int ((VX1.out.keep hb2).alloc (.cells #[.bool false, .slice none 0 0] 41)) (hv2.alloc (.cells #[.bool false, .slice none 0 0] 41)) (fit_of NX.out) (fit_neg (fit_of NY.out))); clear hv2 hb2)
      | (go_at_call 68; (with_reducible refine H1p.out.mono ?_); rintro e w2 ⟨s2, A2, n2, c2, rfl, hv2, hb2⟩; have X2 := Lib.hid (XN.out.below hb2); have Y2 := Lib.hid (YN.out.below hb2); have D2 := Lib.hid (DN.out.below hb2); have HB2 := Lib.hid (HBN.out.trans (hb2.mono HBN.out.size)); have H2q := Lib.hid (rplus_int (VXN.out.keep hb2) hv2 (fit_of NX.out) (fit_neg (fit_of NY.out))); clear hv2 hb2)
      | (go_at_call 67; (with_reducible refine H2.out.mono ?_); rintro e w5 ⟨s5, A5, n5, c5, rfl, hv5, hb5⟩; have X5 := Lib.hid (X2.out.below hb5); have Y5 := Lib.hid (Y2.out.below hb5); have HB5 := Lib.hid (HB2.out.trans (hb5.mono HB2.out.size)); have HV5 := Lib.hid hv5; clear hv5 hb5)
      | (go_at_call 67; (with_reducible refine H2p.out.mono ?_); rintro e w5 ⟨s5, A5, n5, c5, rfl, hv5, hb5⟩; have X5 := Lib.hid ((X2.out.alloc _).below hb5); have Y5 := Lib.hid ((Y2.out.alloc _).below hb5); have hbn := HB2.out.alloc HB2.out.size (.cells #[.bool false, .slice none 0 0] 41); have D5 := Lib.hid ((Bx.new w2 false none 0 0).below hb5); have HB5 := Lib.hid (hbn.trans (hb5.mono hbn.size)); have HG := Lib.hid HB2.out.size; have HV5 := Lib.hid hv5; obtain ⟨q0, q1, z0, z1, zl⟩ := D5.out.facts; clear hv5 hb5 hbn)
      | (go_at_call 67; (with_reducible refine H2q.out.mono ?_); rintro e w5 ⟨s5, A5, n5, c5, rfl, hv5, hb5⟩; have X5 := Lib.hid (X2.out.below hb5); have Y5 := Lib.hid (Y2.out.below hb5); have D5 := Lib.hid (D2.out.below hb5); have HB5 := Lib.hid (HB2.out.trans (hb5.mono HB2.out.size)); have HV5 := Lib.hid hv5; obtain ⟨q0, q1, z0, z1, zl⟩ := D5.out.facts; clear hv5 hb5))
  all_goals
    first
    | (obtain ⟨W6, hW6, Z6, hb6, -, -, -, -⟩ := stored_world D5.out HB5.out (by first | omega | exact HG.out) s5 A5 n5 c5
       rw [hW6]
       have HE := Lib.hid hb6
       clear q0 q1 z0 z1 zl hW6
       obtain ⟨q0, q1, z0, z1, zl⟩ := Z6.facts
       clear Z6 hb6)
    | have HE := Lib.hid (HB5.out.alloc HB5.out.size (.cells #[.bool s5, .slice A5 n5 c5] 41))
    have hp := HV5.out.parts
    have hn := hp.2.2.1 (fit_add NX.out (big_neg NY.out))
    have HN := Lib.hid hp.2.1
    have HS := Lib.hid hp.1
    clear hp
    rcases Int.lt_trichotomy x y with h | h | h
    · have h0 : ((n5 : Int) == 0) = false := by
        have := HN.out
        simp
        omega
      have hs : s5 = true := by rw [HS.out]; exact decide_eq_true (by omega)
      have HH := Lib.hid h
      clear h
      subst hs
      go_wp2
      go_ret
      exact ⟨by first | (rw [cmpI_lt HH.out]; done) | (rw [cmpI_lt HH.out]; rfl), HE.out⟩
    · have h0 : ((n5 : Int) == 0) = true := by
        have := HN.out
        simp
        omega
      have HH := Lib.hid h
      clear h
      go_wp2
      go_ret
      exact ⟨by first | (rw [cmpI_eq HH.out]; done) | (rw [cmpI_eq HH.out]; rfl), HE.out⟩
    · have h0 : ((n5 : Int) == 0) = false := by
        have := HN.out
        simp
        omega
      have hs : s5 = false := by rw [HS.out]; exact decide_eq_false (by omega)
      have HH := Lib.hid h
      clear h
      subst hs
      go_wp2
      go_ret
      exact ⟨by first | (rw [cmpI_gt HH.out]; done) | (rw [cmpI_gt HH.out]; rfl), HE.out⟩
theorem rcmp2_int {va vb : Value} {x y : Int} {w : World} (ha : IntR w va x) (hb : IntR w vb y) (hx : ¬ BigI x) (hy : ¬ BigI y) : Calls Tryz.prog 36 #[va, vb] w fun e w' => e = .returned (.int .i64 (cmpI x y)) ∧ Below w.heap.size w w' := by
  obtain ⟨A, n, ca, rfl⟩ := ha.bx
  obtain ⟨B, m, cb, rfl⟩ := hb.bx
  exact rcmp2_any _ _ A B n ca m cb w x y ha hb hx hy


/-- structs that lie in these blocks -/
def Bxs (w : World) (L : List (Nat × Bool × Option Addr × Nat × Nat)) : Prop := ∀ p ∈ L, Bx w p.1 p.2.1 p.2.2.1 p.2.2.2.1 p.2.2.2.2
/-- values that read as these whole numbers -/
def Rs (w : World) (L : List (Value × Int)) : Prop := ∀ p ∈ L, IntR w p.1 p.2
section
variable {w w' : World} {L : List (Nat × Bool × Option Addr × Nat × Nat)} {M : List (Value × Int)}
theorem Bxs.nil : Bxs w [] := fun p h => by cases h
theorem Bxs.cons {g : Nat} {b : Bool} {A : Option Addr} {n c : Nat} (h : Bx w g b A n c) (hs : Bxs w L) : Bxs w ((g, b, A, n, c) :: L) := fun p hp => by
  rcases List.mem_cons.1 hp with rfl | hp
  · exact h
  · exact hs p hp
theorem Bxs.below (h : Bxs w L) (hb : Below w.heap.size w w') : Bxs w' L := fun p hp => (h p hp).below hb
theorem Bxs.alloc (h : Bxs w L) (o : Obj) : Bxs (w.alloc o) L := fun p hp => (h p hp).alloc o
theorem Bxs.drew (h : Bxs w L) : Bxs w.drew L := h
theorem Bxs.new (h : Bxs w L) (b : Bool) (A : Option Addr) (n c : Nat) : Bxs (w.alloc (.cells #[.bool b, .slice A n c] 41)) ((w.heap.size, b, A, n, c) :: L) := (h.alloc _).cons (Bx.new w b A n c)
theorem Bxs.hd {g : Nat} {b : Bool} {A : Option Addr} {n c : Nat} (h : Bxs w ((g, b, A, n, c) :: L)) : Bx w g b A n c := h _ (List.mem_cons_self ..)
theorem Bxs.tl {p : Nat × Bool × Option Addr × Nat × Nat} (h : Bxs w (p :: L)) : Bxs w L := fun q hq => h q (List.mem_cons_of_mem _ hq)
theorem Rs.nil : Rs w [] := fun p h => by cases h
theorem Rs.cons {v : Value} {z : Int} (h : IntR w v z) (hs : Rs w M) : Rs w ((v, z) :: M) := fun p hp => by
  rcases List.mem_cons.1 hp with rfl | hp
  · exact h
  · exact hs p hp
theorem Rs.keep (h : Rs w M) (hb : Below w.heap.size w w') : Rs w' M := fun p hp => (h p hp).keep hb
theorem Rs.alloc (h : Rs w M) (o : Obj) : Rs (w.alloc o) M := fun p hp => (h p hp).alloc o
theorem Rs.drew (h : Rs w M) : Rs w.drew M := h.keep (Below.refl _ _).drew
theorem Rs.hd {v : Value} {z : Int} (h : Rs w ((v, z) :: M)) : IntR w v z := h _ (List.mem_cons_self ..)
theorem Rs.tl {p : Value × Int} (h : Rs w (p :: M)) : Rs w M := fun q hq => h q (List.mem_cons_of_mem _ hq)
end
/-- the outcome of a reckoning that may be too great, by one number -/
def Out (z zr er : Int) : Prop := (BigI z ∧ er = 11 ∧ zr = 0) ∨ (¬ BigI z ∧ er = 0 ∧ zr = z)
theorem Out.same {z a b e f : Int} (h : Out z a e) (k : Out z b f) : a = b ∧ e = f := by
  rcases h with ⟨h1, rfl, rfl⟩ | ⟨h1, rfl, rfl⟩ <;> rcases k with ⟨k1, rfl, rfl⟩ | ⟨k1, rfl, rfl⟩
  · exact ⟨rfl, rfl⟩
  · exact absurd h1 k1
  · exact absurd k1 h1
  · exact ⟨rfl, rfl⟩
theorem bigI_zero : ¬ BigI 0 := not_big_zero
theorem Out.fit {z a e : Int} (h : Out z a e) : ¬ BigI a := by
  rcases h with ⟨_, _, rfl⟩ | ⟨h1, _, rfl⟩
  · exact bigI_zero
  · exact h1
theorem RetE.out {w w' : World} {z : Int} {e : Ending} (h : RetE w z e w') : ∃ s A n c er zr, e = .returned (.tuple #[.agg #[.bool s, .slice A n c], .int .i64 er]) ∧ IntV w' (.agg #[.bool s, .slice A n c]) zr ∧ Out z zr er ∧ Below w.heap.size w w' := by
  obtain ⟨s, A, n, c, er, rfl, ⟨h1, h2, h3⟩ | ⟨h1, h2, h3⟩, hb⟩ := h
  · exact ⟨s, A, n, c, er, 0, rfl, h3, .inl ⟨h1, h2, rfl⟩, hb⟩
  · exact ⟨s, A, n, c, er, z, rfl, h3, .inr ⟨h1, h2, rfl⟩, hb⟩
theorem RetC.out {w w' : World} {z : Int} {e : Ending} (h : RetC w z e w') : ∃ s A n c er zr, e = .returned (.tuple #[.agg #[.bool s, .slice A n c], .int .i64 er]) ∧ IntR w' (.agg #[.bool s, .slice A n c]) zr ∧ Out z zr er ∧ Below w.heap.size w w' := by
  obtain ⟨s, A, n, c, er, rfl, ⟨h1, h2, h3⟩ | ⟨h1, h2, h3⟩, hb⟩ := h
  · exact ⟨s, A, n, c, er, 0, rfl, h3, .inl ⟨h1, h2, rfl⟩, hb⟩
  · exact ⟨s, A, n, c, er, z, rfl, h3, .inr ⟨h1, h2, rfl⟩, hb⟩
/-- the document's Same of the same number -/
theorem rsame2_yes {va vb : Value} {x : Int} {w : World} (ha : IntR w va x) (hb : IntR w vb x) (hx : ¬ BigI x) : Calls Tryz.prog 30 #[va, vb] w fun e w' => e = .returned (.bool true) ∧ Below w.heap.size w w' := by
  have h := rsame2_int ha hb (fit_of hx)
  rw [decide_eq_true (rfl : x = x)] at h
  exact h

end LM
end Go.Proofs.YtpoojlnndgoeoaaGreatDoor
