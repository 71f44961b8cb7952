/- The walk of exact's Pow. -/
import Derived.Test.YtpaefbojilnnnaaGreatDoorJ23
import Derived.Test.YtpaefbojilnnnaaGreatDoorJ27
import Derived.Deep.RegionHeld3
import Derived.Test.YtpaefbojilnnnaaGreatDoorJ26
import Derived.Test.YtpaefbojilnnnaaGreatDoorJ28
import Derived.Test.YtpaefbojilnnnaaGreatDoorJ14
import Derived.Test.YtpaefbojilnnnaaGreatDoorJ30
import Derived.LoopTactic
import Derived.Deep.LoopGhost
import Derived.Deep.DeepCutAuto
namespace Go.Proofs.YtpaefbojilnnnaaGreatDoor
open Go.RowKit
namespace LM
set_option linter.unusedVariables false

/-- small enough for the document's own sums and products -/
def FitI (z : Int) : Prop := z.natAbs < 4294967296 ^ 130
theorem fit_of {z : Int} (h : ¬ BigI z) : FitI z := by
  have h1 : z.natAbs < 4294967296 ^ 64 := Nat.lt_of_not_le h
  exact Nat.lt_of_lt_of_le h1 (Nat.pow_le_pow_right (by decide) (by decide))
theorem fit_len {r : List Nat} {z : Int} (hc : Can r) (hv : val r = z.natAbs) (hf : FitI z) : r.length ≤ 130 := by
  rcases Nat.lt_or_ge 130 r.length with h | h
  · have := (can_len hc 130).1 h
    rw [hv] at this
    exact absurd hf (by unfold FitI; omega)
  · exact h
theorem fit_neg {z : Int} (h : FitI z) : FitI (-z) := by unfold FitI; rw [Int.natAbs_neg]; exact h
theorem fit_mul {x y : Int} (hx : ¬ BigI x) (hy : ¬ BigI y) : FitI (x * y) := by
  have h1 : x.natAbs < 4294967296 ^ 64 := Nat.lt_of_not_le hx
  have h2 : y.natAbs < 4294967296 ^ 64 := Nat.lt_of_not_le hy
  unfold FitI
  rw [Int.natAbs_mul]
  have h3 : x.natAbs * y.natAbs < 4294967296 ^ 64 * 4294967296 ^ 64 := Nat.mul_lt_mul'' h1 h2
  rw [← Nat.pow_add] at h3
  exact Nat.lt_of_lt_of_le h3 (Nat.pow_le_pow_right (by decide) (by decide))

theorem newc1 (w : World) : Below w.heap.size w (w.alloc (.cells #[.bool false, .slice none 0 0] 38)) ∧ Bx (w.alloc (.cells #[.bool false, .slice none 0 0] 38)) w.heap.size false none 0 0 :=
  ⟨(Below.refl _ w).alloc (Nat.le_refl _) _, Bx.new w false none 0 0⟩
/-- a call that answers a whole number in new memory, whatever its room -/
def RetR (w : World) (z : Int) (e : Ending) (w' : World) : Prop := ∃ s A n c, e = .returned (.agg #[.bool s, .slice A n c]) ∧ IntR w' (.agg #[.bool s, .slice A n c]) z ∧ Below w.heap.size w w'
theorem IntR.bx {w : World} {v : Value} {z : Int} (h : IntR w v z) : ∃ A n c, v = .agg #[.bool (decide (z < 0)), .slice A n c] := by
  obtain ⟨A, c, r, e, _⟩ := h
  exact ⟨A, _, c, e⟩
theorem IntR.parts {w : World} {b : Bool} {A : Option Addr} {n c : Nat} {z : Int} (h : IntR w (.agg #[.bool b, .slice A n c]) z) : b = decide (z < 0) ∧ (n = 0 ↔ z = 0) ∧ (FitI z → n ≤ 130) ∧ (64 < n ↔ BigI z) := by
  obtain ⟨A', c', r, e, h3, h4, h5⟩ := h
  simp only [Value.agg.injEq, Array.mk.injEq, List.cons.injEq, Value.bool.injEq, Value.slice.injEq, and_true] at e
  obtain ⟨rfl, rfl, rfl, rfl⟩ := e
  refine ⟨rfl, by rw [can_zero h4, h5]; omega, fun hf => fit_len h4 h5 hf, ?_⟩
  unfold BigI
  rw [big_iff h4, h5]
theorem IntR.alloc {w : World} {v : Value} {z : Int} (h : IntR w v z) (o : Obj) : IntR (w.alloc o) v z := h.keep ((Below.refl _ _).alloc (Nat.le_refl _) _)
theorem IntR.drew {w : World} {v : Value} {z : Int} (h : IntR w v z) : IntR w.drew v z := h.keep (Below.refl _ _).drew

set_option maxRecDepth 100000 in
set_option maxHeartbeats 1000000 in
theorem rmade_nil (neg : Bool) (A : Option Addr) (c : Nat) (w : World) :
    Calls Tryz.prog 149 #[.bool neg, .slice A 0 c] w (RetR w 0) := by
  obtain ⟨hb0, x0⟩ := newc1 w
  have HB0 := Lib.hid hb0
  have X0 := Lib.hid x0
  clear hb0 x0
  go_enter Tryz.func149, Tryz.ntmps149
  go_wp2
  refine bodyPost_ret (v := .agg #[.bool false, .slice none 0 0]) (by simp [results, Tryz.results149, go_sem]) rfl ?_
  exact ⟨_, _, _, _, rfl, ⟨none, 0, [], rfl, Rd.nil, can_nil, rfl⟩, HB0.out⟩

set_option maxRecDepth 100000 in
set_option maxHeartbeats 1000000 in
theorem rmade_some (neg : Bool) (A : Option Addr) (c : Nat) (r : List Nat) (w : World) (h0 : 0 < r.length) (hl : r.length ≤ 10000) (h3 : Rd w A r) (h4 : Can r) :
    Calls Tryz.prog 149 #[.bool neg, .slice A r.length c] w (RetR w (sg neg (val r))) := by
  have hz : ((r.length : Int) == 0) = false := by simp; intro h; rw [h] at h0; simp at h0
  have HR := Lib.hid (h3.alloc (.cells #[.bool neg, .slice A r.length c] 38))
  have HP := Lib.hid ((can_pos h4).1 h0)
  have HC := Lib.hid h4
  clear h0 h3 h4
  go_enter Tryz.func149, Tryz.ntmps149
  go_wp2
  refine bodyPost_ret (v := .agg #[.bool neg, .slice A r.length c]) (by simp [results, Tryz.results149, go_sem]) rfl ?_
  refine ⟨_, _, _, _, rfl, ⟨A, c, r, ?_, HR.out, HC.out, (sg_abs _ _).symm⟩, (Below.refl _ _).alloc (Nat.le_refl _) _⟩
  rw [sg_neg, decide_eq_true HP.out, Bool.and_true]

theorem rmade_num (neg : Bool) (A : Option Addr) (c : Nat) (r : List Nat) (w : World) (hl : r.length ≤ 10000) (h3 : Rd w A r) (h4 : Can r) :
    Calls Tryz.prog 149 #[.bool neg, .slice A r.length c] w (RetR w (sg neg (val r))) := by
  rcases Nat.eq_zero_or_pos r.length with h | h
  · have hv : val r = 0 := (can_zero h4).1 h
    rw [h, hv, sg_zero]
    exact rmade_nil neg A c w
  · exact rmade_some neg A c r w h hl h3 h4

theorem numr_len {r : List Nat} (hc : Can r) (h : val r < 4294967296 ^ 200) : r.length ≤ 10000 := by
  rcases Nat.lt_or_ge 200 r.length with h1 | h1
  · exact absurd ((can_len hc 200).1 h1) (by omega)
  · omega
theorem sum_len {xs ys : List Nat} (hx : Can xs) (hy : Can ys) (hxl : xs.length ≤ 130) (hyl : ys.length ≤ 130) : val xs + val ys < 4294967296 ^ 200 := by
  have h1 := val_len_lt hx.1 hxl
  have h2 := val_len_lt hy.1 hyl
  have h3 : 4294967296 ^ 130 + 4294967296 ^ 130 ≤ 4294967296 ^ 200 := by
    have h4 : 4294967296 ^ 131 ≤ 4294967296 ^ 200 := Nat.pow_le_pow_right (by decide) (by decide)
    have h5 : 4294967296 ^ 131 = 4294967296 ^ 130 * 4294967296 := Nat.pow_succ ..
    generalize 4294967296 ^ 200 = Q at *
    generalize 4294967296 ^ 131 = R at *
    generalize 4294967296 ^ 130 = P at *
    omega
  generalize 4294967296 ^ 200 = Q at *
  generalize 4294967296 ^ 130 = P at *
  omega
theorem prod_len {xs ys : List Nat} (hx : Can xs) (hy : Can ys) (hxl : xs.length ≤ 64) (hyl : ys.length ≤ 64) : val xs * val ys < 4294967296 ^ 200 := by
  have h3 : val xs * val ys < 4294967296 ^ 64 * 4294967296 ^ 64 := Nat.mul_lt_mul'' (val_len_lt hx.1 hxl) (val_len_lt hy.1 hyl)
  rw [← Nat.pow_add] at h3
  exact Nat.lt_of_lt_of_le h3 (Nat.pow_le_pow_right (by decide) (by decide))

set_option maxRecDepth 100000 in
set_option maxHeartbeats 1000000 in
theorem rplus_same (s t : Bool) (A B : Option Addr) (ca cb : Nat) (xs ys : List Nat) (w : World) (ha : Rd w A xs) (hb : Rd w B ys) (hx : Can xs) (hy : Can ys) (hxl : xs.length ≤ 130) (hyl : ys.length ≤ 130) (hst : t = s) :
    Calls Tryz.prog 82 #[.agg #[.bool s, .slice A xs.length ca], .agg #[.bool t, .slice B ys.length cb]] w (RetR w (sg s (val xs + val ys))) := by
  obtain ⟨hb0, x0, y0, z0⟩ := new3 w s t A B xs.length ca ys.length cb
  have HB0 := Lib.hid hb0
  have X0 := Lib.hid x0
  have Y0 := Lib.hid y0
  have Z0 := Lib.hid z0
  have HA := Lib.hid (ha.below hb0)
  have HBB := Lib.hid (hb.below hb0)
  have HX := Lib.hid hx
  have HY := Lib.hid hy
  have HST := Lib.hid hst
  have HLEN := Lib.hid (sum_len hx hy hxl hyl)
  clear hb0 x0 y0 z0 ha hb hx hy hst
  go_enter Tryz.func82, Tryz.ntmps82
  have heq : (s == t) = true := by simp [HST.out]
  go_wp2
  have HB1 := Lib.hid HB0.out.drew
  have X1 := Lib.hid X0.out.drew
  have Y1 := Lib.hid Y0.out.drew
  have Z1 := Lib.hid Z0.out.drew
  have H1 := Lib.hid (rplus_any A B ca cb xs ys _ (HA.out.drew) (HBB.out.drew) HX.out.1 HY.out.1 (by omega) (by omega))
  go_region_held3 (fun W => W.cell? ⟨w.heap.size, 0, none⟩ = some (.bool s) ∧ W.cell? ⟨w.heap.size, 1, none⟩ = some (.slice A xs.length ca) ∧ W.cell? ⟨w.heap.size + 1, 0, none⟩ = some (.bool t) ∧ W.cell? ⟨w.heap.size + 1, 1, none⟩ = some (.slice B ys.length cb))
    ((refine ⟨Bx.c0 (A := A) (n := xs.length) (c := ca) ?_, Bx.c1 (b := s) ?_, Bx.c0 (A := B) (n := ys.length) (c := cb) ?_, Bx.c1 (b := t) ?_⟩ <;> (repeat' (first | (with_reducible exact Hid.out (by assumption)) | refine Bx.set ?_ _ (by simp <;> omega)))))
    (first
      | (go_at_call 143; (with_reducible refine H1.out.mono ?_); rintro e w2 ⟨⟨v, rfl, A2, c2, r2, rfl, hn2, hrd2, hcan2, hval2⟩, hb2⟩; have X2 := Lib.hid (X1.out.below hb2); have Y2 := Lib.hid (Y1.out.below hb2); have Z2 := Lib.hid (Z1.out.below hb2); have HB2 := Lib.hid (HB1.out.trans (hb2.mono HB1.out.size)); have HM := Lib.hid (rmade_num (s) A2 c2 r2 w2 (numr_len hcan2 (by rw [hval2]; exact HLEN.out)) hrd2 hcan2); rw [hval2] at HM; clear hn2 hrd2 hcan2 hval2 hb2)
      | (go_at_call 149; (with_reducible refine HM.out.mono ?_); rintro e w3 ⟨s3, A3, n3, c3, rfl, hv3, hb3⟩; have X3 := Lib.hid (X2.out.below hb3); have Y3 := Lib.hid (Y2.out.below hb3); have Z3 := Lib.hid (Z2.out.below hb3); obtain ⟨q0, q1, z0, z1, zl⟩ := Z3.out.facts; have HB3 := Lib.hid (HB2.out.trans (hb3.mono HB2.out.size)); have HV3 := Lib.hid hv3; clear hb3 hv3))
  all_goals
    obtain ⟨W4, hW4, Z, hb4, -, hv4, -, -⟩ := stored_world Z3.out HB3.out (by omega) s3 A3 n3 c3
    rw [hW4]
    have HV4 := Lib.hid (hv4 _ _ HV3.out)
    obtain ⟨c0, c1, -, -, -⟩ := Z.facts
    clear q0 q1 z0 z1 zl hW4 hv4
    go_wp2
    refine bodyPost_ret (v := .agg #[.bool s3, .slice A3 n3 c3]) (by simp [results, Tryz.results82, go_sem, c0, c1]) rfl ?_
    exact ⟨_, _, _, _, rfl, HV4.out, hb4⟩

set_option maxRecDepth 100000 in
set_option maxHeartbeats 1000000 in
theorem rplus_ge (s t : Bool) (A B : Option Addr) (ca cb : Nat) (xs ys : List Nat) (w : World) (ha : Rd w A xs) (hb : Rd w B ys) (hx : Can xs) (hy : Can ys) (hxl : xs.length ≤ 130) (hyl : ys.length ≤ 130) (hst : ¬ s = t) (hle : val ys ≤ val xs) :
    Calls Tryz.prog 82 #[.agg #[.bool s, .slice A xs.length ca], .agg #[.bool t, .slice B ys.length cb]] w (RetR w (sg s (val xs - val ys))) := by
  obtain ⟨hb0, x0, y0, z0⟩ := new3 w s t A B xs.length ca ys.length cb
  have HB0 := Lib.hid hb0
  have X0 := Lib.hid x0
  have Y0 := Lib.hid y0
  have Z0 := Lib.hid z0
  have HA := Lib.hid (ha.below hb0)
  have HBB := Lib.hid (hb.below hb0)
  have HX := Lib.hid hx
  have HY := Lib.hid hy
  have HST := Lib.hid hst
  have HLE := Lib.hid hle
  have HLEN : Hid (val xs - val ys < 4294967296 ^ 200) := Lib.hid (Nat.lt_of_le_of_lt (Nat.le_trans (Nat.sub_le _ _) (Nat.le_add_right (val xs) (val ys))) (sum_len hx hy hxl hyl))
  clear hb0 x0 y0 z0 ha hb hx hy hst hle
  go_enter Tryz.func82, Tryz.ntmps82
  have heq : (s == t) = false := by simp; exact HST.out
  obtain ⟨o, hoc, ho⟩ : ∃ o : Int, cmpN (val xs) (val ys) = o ∧ decide (0 ≤ o) = true := ⟨_, rfl, by unfold cmpN; have := HLE.out; split <;> (try split) <;> first | omega | decide⟩
  have HC := Lib.hid (rcmp_any A B ca cb xs ys _ HA.out HBB.out HX.out.1 HY.out.1 (by omega) (by omega))
  rw [hoc] at HC
  clear hoc
  go_wp2_with fail
  refine HC.out.mono ?_
  rintro e wq ⟨rfl, rfl⟩
  go_wp2
  have HB1 := Lib.hid HB0.out.drew
  have X1 := Lib.hid X0.out.drew
  have Y1 := Lib.hid Y0.out.drew
  have Z1 := Lib.hid Z0.out.drew
  have H1 := Lib.hid (rminus_any A B ca cb xs ys _ (HA.out.drew) (HBB.out.drew) HX.out.1 HY.out.1 (by omega) (by omega) HLE.out)
  go_region_held3 (fun W => W.cell? ⟨w.heap.size, 0, none⟩ = some (.bool s) ∧ W.cell? ⟨w.heap.size, 1, none⟩ = some (.slice A xs.length ca) ∧ W.cell? ⟨w.heap.size + 1, 0, none⟩ = some (.bool t) ∧ W.cell? ⟨w.heap.size + 1, 1, none⟩ = some (.slice B ys.length cb))
    ((refine ⟨Bx.c0 (A := A) (n := xs.length) (c := ca) ?_, Bx.c1 (b := s) ?_, Bx.c0 (A := B) (n := ys.length) (c := cb) ?_, Bx.c1 (b := t) ?_⟩ <;> (repeat' (first | (with_reducible exact Hid.out (by assumption)) | refine Bx.set ?_ _ (by simp <;> omega)))))
    (first
      | (go_at_call 151; (with_reducible refine H1.out.mono ?_); rintro e w2 ⟨⟨v, rfl, A2, c2, r2, rfl, hn2, hrd2, hcan2, hval2⟩, hb2⟩; have X2 := Lib.hid (X1.out.below hb2); have Y2 := Lib.hid (Y1.out.below hb2); have Z2 := Lib.hid (Z1.out.below hb2); have HB2 := Lib.hid (HB1.out.trans (hb2.mono HB1.out.size)); have HM := Lib.hid (rmade_num (s) A2 c2 r2 w2 (numr_len hcan2 (by rw [hval2]; exact HLEN.out)) hrd2 hcan2); rw [hval2] at HM; clear hn2 hrd2 hcan2 hval2 hb2)
      | (go_at_call 149; (with_reducible refine HM.out.mono ?_); rintro e w3 ⟨s3, A3, n3, c3, rfl, hv3, hb3⟩; have X3 := Lib.hid (X2.out.below hb3); have Y3 := Lib.hid (Y2.out.below hb3); have Z3 := Lib.hid (Z2.out.below hb3); obtain ⟨q0, q1, z0, z1, zl⟩ := Z3.out.facts; have HB3 := Lib.hid (HB2.out.trans (hb3.mono HB2.out.size)); have HV3 := Lib.hid hv3; clear hb3 hv3))
  all_goals
    obtain ⟨W4, hW4, Z, hb4, -, hv4, -, -⟩ := stored_world Z3.out HB3.out (by omega) s3 A3 n3 c3
    rw [hW4]
    have HV4 := Lib.hid (hv4 _ _ HV3.out)
    obtain ⟨c0, c1, -, -, -⟩ := Z.facts
    clear q0 q1 z0 z1 zl hW4 hv4
    go_wp2
    refine bodyPost_ret (v := .agg #[.bool s3, .slice A3 n3 c3]) (by simp [results, Tryz.results82, go_sem, c0, c1]) rfl ?_
    exact ⟨_, _, _, _, rfl, HV4.out, hb4⟩

set_option maxRecDepth 100000 in
set_option maxHeartbeats 1000000 in
theorem rplus_lt (s t : Bool) (A B : Option Addr) (ca cb : Nat) (xs ys : List Nat) (w : World) (ha : Rd w A xs) (hb : Rd w B ys) (hx : Can xs) (hy : Can ys) (hxl : xs.length ≤ 130) (hyl : ys.length ≤ 130) (hst : ¬ s = t) (hle : val xs < val ys) :
    Calls Tryz.prog 82 #[.agg #[.bool s, .slice A xs.length ca], .agg #[.bool t, .slice B ys.length cb]] w (RetR w (sg t (val ys - val xs))) := by
  obtain ⟨hb0, x0, y0, z0⟩ := new3 w s t A B xs.length ca ys.length cb
  have HB0 := Lib.hid hb0
  have X0 := Lib.hid x0
  have Y0 := Lib.hid y0
  have Z0 := Lib.hid z0
  have HA := Lib.hid (ha.below hb0)
  have HBB := Lib.hid (hb.below hb0)
  have HX := Lib.hid hx
  have HY := Lib.hid hy
  have HST := Lib.hid hst
  have HLE := Lib.hid hle
  have HLEN : Hid (val ys - val xs < 4294967296 ^ 200) := Lib.hid (Nat.lt_of_le_of_lt (Nat.le_trans (Nat.sub_le _ _) (Nat.le_add_left (val ys) (val xs))) (sum_len hx hy hxl hyl))
  clear hb0 x0 y0 z0 ha hb hx hy hst hle
  go_enter Tryz.func82, Tryz.ntmps82
  have heq : (s == t) = false := by simp; exact HST.out
  obtain ⟨o, hoc, ho⟩ : ∃ o : Int, cmpN (val xs) (val ys) = o ∧ decide (0 ≤ o) = false := ⟨_, rfl, by unfold cmpN; have := HLE.out; split <;> (try split) <;> first | omega | decide⟩
  have HC := Lib.hid (rcmp_any A B ca cb xs ys _ HA.out HBB.out HX.out.1 HY.out.1 (by omega) (by omega))
  rw [hoc] at HC
  clear hoc
  go_wp2_with fail
  refine HC.out.mono ?_
  rintro e wq ⟨rfl, rfl⟩
  go_wp2
  have HB1 := Lib.hid HB0.out.drew
  have X1 := Lib.hid X0.out.drew
  have Y1 := Lib.hid Y0.out.drew
  have Z1 := Lib.hid Z0.out.drew
  have H1 := Lib.hid (rminus_any B A cb ca ys xs _ (HBB.out.drew) (HA.out.drew) HY.out.1 HX.out.1 (by omega) (by omega) (Nat.le_of_lt HLE.out))
  go_region_held3 (fun W => W.cell? ⟨w.heap.size, 0, none⟩ = some (.bool s) ∧ W.cell? ⟨w.heap.size, 1, none⟩ = some (.slice A xs.length ca) ∧ W.cell? ⟨w.heap.size + 1, 0, none⟩ = some (.bool t) ∧ W.cell? ⟨w.heap.size + 1, 1, none⟩ = some (.slice B ys.length cb))
    ((refine ⟨Bx.c0 (A := A) (n := xs.length) (c := ca) ?_, Bx.c1 (b := s) ?_, Bx.c0 (A := B) (n := ys.length) (c := cb) ?_, Bx.c1 (b := t) ?_⟩ <;> (repeat' (first | (with_reducible exact Hid.out (by assumption)) | refine Bx.set ?_ _ (by simp <;> omega)))))
    (first
      | (go_at_call 151; (with_reducible refine H1.out.mono ?_); rintro e w2 ⟨⟨v, rfl, A2, c2, r2, rfl, hn2, hrd2, hcan2, hval2⟩, hb2⟩; have X2 := Lib.hid (X1.out.below hb2); have Y2 := Lib.hid (Y1.out.below hb2); have Z2 := Lib.hid (Z1.out.below hb2); have HB2 := Lib.hid (HB1.out.trans (hb2.mono HB1.out.size)); have HM := Lib.hid (rmade_num (t) A2 c2 r2 w2 (numr_len hcan2 (by rw [hval2]; exact HLEN.out)) hrd2 hcan2); rw [hval2] at HM; clear hn2 hrd2 hcan2 hval2 hb2)
      | (go_at_call 149; (with_reducible refine HM.out.mono ?_); rintro e w3 ⟨s3, A3, n3, c3, rfl, hv3, hb3⟩; have X3 := Lib.hid (X2.out.below hb3); have Y3 := Lib.hid (Y2.out.below hb3); have Z3 := Lib.hid (Z2.out.below hb3); obtain ⟨q0, q1, z0, z1, zl⟩ := Z3.out.facts; have HB3 := Lib.hid (HB2.out.trans (hb3.mono HB2.out.size)); have HV3 := Lib.hid hv3; clear hb3 hv3))
  all_goals
    obtain ⟨W4, hW4, Z, hb4, -, hv4, -, -⟩ := stored_world Z3.out HB3.out (by omega) s3 A3 n3 c3
    rw [hW4]
    have HV4 := Lib.hid (hv4 _ _ HV3.out)
    obtain ⟨c0, c1, -, -, -⟩ := Z.facts
    clear q0 q1 z0 z1 zl hW4 hv4
    go_wp2
    refine bodyPost_ret (v := .agg #[.bool s3, .slice A3 n3 c3]) (by simp [results, Tryz.results82, go_sem, c0, c1]) rfl ?_
    exact ⟨_, _, _, _, rfl, HV4.out, hb4⟩

set_option maxRecDepth 100000 in
set_option maxHeartbeats 1000000 in
theorem rtimes2_any (s t : Bool) (A B : Option Addr) (ca cb : Nat) (xs ys : List Nat) (w : World) (ha : Rd w A xs) (hb : Rd w B ys) (hx : Can xs) (hy : Can ys) (hxl : xs.length ≤ 64) (hyl : ys.length ≤ 64)  :
    Calls Tryz.prog 160 #[.agg #[.bool s, .slice A xs.length ca], .agg #[.bool t, .slice B ys.length cb]] w (RetR w (sg (!(s == t)) (val xs * val ys))) := by
  obtain ⟨hb0, x0, y0, z0⟩ := new3 w s t A B xs.length ca ys.length cb
  have HB0 := Lib.hid hb0
  have X0 := Lib.hid x0
  have Y0 := Lib.hid y0
  have Z0 := Lib.hid z0
  have HA := Lib.hid (ha.below hb0)
  have HBB := Lib.hid (hb.below hb0)
  have HX := Lib.hid hx
  have HY := Lib.hid hy
  have HLEN := Lib.hid (prod_len hx hy hxl hyl)
  clear hb0 x0 y0 z0 ha hb hx hy
  go_enter Tryz.func160, Tryz.ntmps160
  go_wp2
  have HB1 := Lib.hid HB0.out.drew
  have X1 := Lib.hid X0.out.drew
  have Y1 := Lib.hid Y0.out.drew
  have Z1 := Lib.hid Z0.out.drew
  have H1 := Lib.hid (rtimes_any A B ca cb xs ys _ (HA.out.drew) (HBB.out.drew) HX.out.1 HY.out.1 (by omega) (by omega))
  go_region_held3 (fun W => W.cell? ⟨w.heap.size, 0, none⟩ = some (.bool s) ∧ W.cell? ⟨w.heap.size, 1, none⟩ = some (.slice A xs.length ca) ∧ W.cell? ⟨w.heap.size + 1, 0, none⟩ = some (.bool t) ∧ W.cell? ⟨w.heap.size + 1, 1, none⟩ = some (.slice B ys.length cb))
    ((refine ⟨Bx.c0 (A := A) (n := xs.length) (c := ca) ?_, Bx.c1 (b := s) ?_, Bx.c0 (A := B) (n := ys.length) (c := cb) ?_, Bx.c1 (b := t) ?_⟩ <;> (repeat' (first | (with_reducible exact Hid.out (by assumption)) | refine Bx.set ?_ _ (by simp <;> omega)))))
    (first
      | (go_at_call 211; (with_reducible refine H1.out.mono ?_); rintro e w2 ⟨⟨v, rfl, A2, c2, r2, rfl, hn2, hrd2, hcan2, hval2⟩, hb2⟩; have X2 := Lib.hid (X1.out.below hb2); have Y2 := Lib.hid (Y1.out.below hb2); have Z2 := Lib.hid (Z1.out.below hb2); have HB2 := Lib.hid (HB1.out.trans (hb2.mono HB1.out.size)); have HM := Lib.hid (rmade_num (!(s == t)) A2 c2 r2 w2 (numr_len hcan2 (by rw [hval2]; exact HLEN.out)) hrd2 hcan2); rw [hval2] at HM; clear hn2 hrd2 hcan2 hval2 hb2)
      | (go_at_call 149; (with_reducible refine HM.out.mono ?_); rintro e w3 ⟨s3, A3, n3, c3, rfl, hv3, hb3⟩; have X3 := Lib.hid (X2.out.below hb3); have Y3 := Lib.hid (Y2.out.below hb3); have Z3 := Lib.hid (Z2.out.below hb3); obtain ⟨q0, q1, z0, z1, zl⟩ := Z3.out.facts; have HB3 := Lib.hid (HB2.out.trans (hb3.mono HB2.out.size)); have HV3 := Lib.hid hv3; clear hb3 hv3))
  all_goals
    obtain ⟨W4, hW4, Z, hb4, -, hv4, -, -⟩ := stored_world Z3.out HB3.out (by omega) s3 A3 n3 c3
    rw [hW4]
    have HV4 := Lib.hid (hv4 _ _ HV3.out)
    obtain ⟨c0, c1, -, -, -⟩ := Z.facts
    clear q0 q1 z0 z1 zl hW4 hv4
    go_wp2
    refine bodyPost_ret (v := .agg #[.bool s3, .slice A3 n3 c3]) (by simp [results, Tryz.results160, go_sem, c0, c1]) rfl ?_
    exact ⟨_, _, _, _, rfl, HV4.out, hb4⟩

theorem sg_self2 {z : Int} {n : Nat} (h : n = z.natAbs) : sg (decide (z < 0)) n = z := by rw [h, sg_of]
theorem rplus_int {va vb : Value} {x y : Int} {w : World} (ha : IntR w va x) (hb : IntR w vb y) (hx : FitI x) (hy : FitI y) : Calls Tryz.prog 82 #[va, vb] w (RetR w (x + y)) := by
  obtain ⟨A, ca, xs, rfl, h3, h4, h5⟩ := ha
  obtain ⟨B, cb, ys, rfl, k3, k4, k5⟩ := hb
  have e1 := sg_self2 h5
  have e2 := sg_self2 k5
  have l1 := fit_len h4 h5 hx
  have l2 := fit_len k4 k5 hy
  by_cases hs : decide (x < 0) = decide (y < 0)
  · have h := rplus_same _ _ A B ca cb xs ys w h3 k3 h4 k4 l1 l2 hs.symm
    rw [← sg_add_same, e1] at h
    rw [hs, e2] at h
    rw [hs]
    exact h
  · have hxy : x + y = sg (decide (x < 0)) (val xs) + sg (decide (y < 0)) (val ys) := by rw [e1, e2]
    rw [hxy]
    rcases Nat.lt_or_ge (val xs) (val ys) with h | h
    · rw [sg_add_lt _ _ _ _ hs (Nat.le_of_lt h)]
      exact rplus_lt _ _ A B ca cb xs ys w h3 k3 h4 k4 l1 l2 hs h
    · rw [sg_add_ge _ _ _ _ hs h]
      exact rplus_ge _ _ A B ca cb xs ys w h3 k3 h4 k4 l1 l2 hs h
theorem rtimes_int {va vb : Value} {x y : Int} {w : World} (ha : IntR w va x) (hb : IntR w vb y) (hx : ¬ BigI x) (hy : ¬ BigI y) : Calls Tryz.prog 160 #[va, vb] w (RetR w (x * y)) := by
  obtain ⟨A, ca, xs, rfl, h3, h4, h5⟩ := ha
  obtain ⟨B, cb, ys, rfl, k3, k4, k5⟩ := hb
  have h := rtimes2_any (decide (x < 0)) (decide (y < 0)) A B ca cb xs ys w h3 k3 h4 k4 (len_not_big h4 (by rw [h5]; exact hx)) (len_not_big k4 (by rw [k5]; exact hy))
  rw [h5, k5] at h
  rw [abs_mul_sg]
  exact h

set_option maxRecDepth 100000 in
set_option maxHeartbeats 1000000 in
theorem rneg_any (s : Bool) (A : Option Addr) (c : Nat) (r : List Nat) (w : World) (h3 : Rd w A r) (h4 : Can r) (h5 : r.length ≤ 10000) :
    Calls Tryz.prog 83 #[.agg #[.bool s, .slice A r.length c]] w (RetR w (sg (!s) (val r))) := by
  obtain ⟨hb0, x0, y0⟩ := new2 w s A r.length c
  have HB0 := Lib.hid hb0
  have Y0 := Lib.hid y0
  have H1 := Lib.hid (rmade_num (!s) A c r _ h5 (h3.below hb0) h4)
  clear hb0 x0 y0 h3 h4
  go_enter Tryz.func83, Tryz.ntmps83
  go_wp2_with fail
  refine H1.out.mono ?_
  rintro e w3 ⟨s3, A3, n3, c3, rfl, hv3, hb3⟩
  have Z3 := Lib.hid (Y0.out.below hb3)
  obtain ⟨q0, q1, z0, z1, zl⟩ := Z3.out.facts
  have HB3 := Lib.hid (HB0.out.trans (hb3.mono HB0.out.size))
  have HV3 := Lib.hid hv3
  clear hb3 hv3
  go_wp2
  obtain ⟨W4, hW4, Z, hb4, -, hv4, -, -⟩ := stored_world Z3.out HB3.out (by omega) s3 A3 n3 c3
  rw [hW4]
  have HV4 := Lib.hid (hv4 _ _ HV3.out)
  obtain ⟨c0, c1, -, -, -⟩ := Z.facts
  clear q0 q1 z0 z1 zl hW4 hv4
  refine bodyPost_ret (v := .agg #[.bool s3, .slice A3 n3 c3]) (by simp [results, Tryz.results83, go_sem, c0, c1]) rfl ?_
  exact ⟨_, _, _, _, rfl, HV4.out, hb4⟩
theorem rneg_int {va : Value} {x : Int} {w : World} (ha : IntR w va x) (hx : FitI x) : Calls Tryz.prog 83 #[va] w (RetR w (-x)) := by
  obtain ⟨A, ca, xs, rfl, h3, h4, h5⟩ := ha
  have h := rneg_any (decide (x < 0)) A ca xs w h3 h4 (by have := fit_len h4 h5 hx; omega)
  rw [← sg_flip, h5, sg_of] at h
  exact h


theorem big_neg {z : Int} (h : ¬ BigI z) : ¬ BigI (-z) := by unfold BigI; rw [Int.natAbs_neg]; exact h

/-- the document's answer, capped -/
def RetC (w : World) (z : Int) (e : Ending) (w' : World) : Prop := ∃ s A n c er, e = .returned (.tuple #[.agg #[.bool s, .slice A n c], .int .i64 er]) ∧
  ((BigI z ∧ er = 11 ∧ IntR w' (.agg #[.bool s, .slice A n c]) 0) ∨ (¬ BigI z ∧ er = 0 ∧ IntR w' (.agg #[.bool s, .slice A n c]) z)) ∧ Below w.heap.size w w'
theorem intR_nil (w : World) : IntR w (.agg #[.bool false, .slice none 0 0]) 0 := ⟨none, 0, [], rfl, Rd.nil, can_nil, rfl⟩

set_option maxRecDepth 100000 in
set_option maxHeartbeats 1000000 in
theorem rsame2_diff (s t : Bool) (hst : ¬ s = t) (A B : Option Addr) (ca cb : Nat) (xs ys : List Nat) (w : World) (ha : Rd w A xs) (hb : Rd w B ys) (hxl : xs.length ≤ 1000000) :
    Calls Tryz.prog 29 #[.agg #[.bool s, .slice A xs.length ca], .agg #[.bool t, .slice B ys.length cb]] w fun e w' => e = .returned (.bool (false)) ∧ Below w.heap.size w w' := by
  have heq : (s == t) = false := by simp; exact hst
  obtain ⟨hb0, x0, y0⟩ := newp2 w s t A B xs.length ca ys.length cb
  have HB0 := Lib.hid hb0
  have H1 := Lib.hid (same_any A B ca cb xs ys _ (ha.below hb0) (hb.below hb0) hxl)
  clear hb0 x0 y0 ha hb hst
  go_enter Tryz.func29, Tryz.ntmps29
  go_wp2
  go_ret
  exact ⟨rfl, HB0.out⟩

set_option maxRecDepth 100000 in
set_option maxHeartbeats 1000000 in
theorem rsame2_same (s : Bool)  (A B : Option Addr) (ca cb : Nat) (xs ys : List Nat) (w : World) (ha : Rd w A xs) (hb : Rd w B ys) (hxl : xs.length ≤ 1000000) :
    Calls Tryz.prog 29 #[.agg #[.bool s, .slice A xs.length ca], .agg #[.bool s, .slice B ys.length cb]] w fun e w' => e = .returned (.bool (sameB xs ys)) ∧ Below w.heap.size w w' := by
  have heq : (s == s) = true := by simp
  obtain ⟨hb0, x0, y0⟩ := newp2 w s s A B xs.length ca ys.length cb
  have HB0 := Lib.hid hb0
  have H1 := Lib.hid (same_any A B ca cb xs ys _ (ha.below hb0) (hb.below hb0) hxl)
  clear hb0 x0 y0 ha hb
  go_enter Tryz.func29, Tryz.ntmps29
  go_wp2_with fail
  refine H1.out.mono ?_
  rintro e w2 ⟨rfl, hb2⟩
  have HB2 := Lib.hid (HB0.out.trans (hb2.mono HB0.out.size))
  clear hb2
  go_wp2
  go_ret
  exact ⟨rfl, HB2.out⟩

theorem rsame2_int {va vb : Value} {x y : Int} {w : World} (ha : IntR w va x) (hb : IntR w vb y) (hx : FitI x) : Calls Tryz.prog 29 #[va, vb] w fun e w' => e = .returned (.bool (decide (x = y))) ∧ Below w.heap.size w w' := by
  obtain ⟨A, ca, xs, rfl, h3, h4, h5⟩ := ha
  obtain ⟨B, cb, ys, rfl, k3, k4, k5⟩ := hb
  have l1 := fit_len h4 h5 hx
  by_cases hs : decide (x < 0) = decide (y < 0)
  · have h := rsame2_same (decide (x < 0)) A B ca cb xs ys w h3 k3 (by omega)
    have he : sameB xs ys = decide (x = y) := by
      unfold sameB
      refine decide_eq_decide.2 ⟨fun e => ?_, fun e => can_ext h4 k4 (by rw [h5, k5, e])⟩
      have e1 := sg_self2 h5
      have e2 := sg_self2 k5
      rw [← e1, ← e2, hs, e]
    rw [he] at h
    rw [← hs]
    exact h
  · have h := rsame2_diff (decide (x < 0)) (decide (y < 0)) hs A B ca cb xs ys w h3 k3 (by omega)
    rw [show decide (x = y) = false from decide_eq_false fun e => hs (by rw [e])]
    exact h
theorem fit_add {x y : Int} (hx : ¬ BigI x) (hy : ¬ BigI y) : FitI (x + y) := by
  have h1 : x.natAbs < 4294967296 ^ 64 := Nat.lt_of_not_le hx
  have h2 : y.natAbs < 4294967296 ^ 64 := Nat.lt_of_not_le hy
  have h3 : 4294967296 ^ 65 ≤ 4294967296 ^ 130 := Nat.pow_le_pow_right (by decide) (by decide)
  have h4 : (4294967296 : Nat) ^ 65 = 4294967296 ^ 64 * 4294967296 := Nat.pow_succ ..
  have h5 := Int.natAbs_add_le x y
  unfold FitI
  generalize 4294967296 ^ 130 = Q at *
  generalize 4294967296 ^ 65 = R at *
  generalize 4294967296 ^ 64 = P at *
  omega

set_option maxRecDepth 100000 in
set_option maxHeartbeats 1000000 in
theorem rcmp2_any (s t : Bool) (A B : Option Addr) (n ca m cb : Nat) (w : World) (x y : Int) (ha : IntR w (.agg #[.bool s, .slice A n ca]) x) (hb : IntR w (.agg #[.bool t, .slice B m cb]) y) (hx : ¬ BigI x) (hy : ¬ BigI y) :
    Calls Tryz.prog 31 #[.agg #[.bool s, .slice A n ca], .agg #[.bool t, .slice B m cb]] w fun e w' => e = .returned (.int .i64 (cmpI x y)) ∧ Below w.heap.size w w' := by
  obtain ⟨hb0, x0, y0⟩ := newp2 w s t A B n ca m cb
  have HB1 := Lib.hid hb0.drew
  have X1 := Lib.hid x0.drew
  have Y1 := Lib.hid y0.drew
  have VX1 := Lib.hid (ha.keep hb0).drew
  have H1 := Lib.hid (rneg_int (hb.keep hb0).drew (fit_of hy))
  obtain ⟨hbn, xn, yn, dn⟩ := new3 w s t A B n ca m cb
  have H1p := Lib.hid (rneg_int (hb.keep hbn).drew (fit_of hy))
  have HBN := Lib.hid hbn.drew
  have XN := Lib.hid xn.drew
  have YN := Lib.hid yn.drew
  have DN := Lib.hid dn.drew
  have VXN := Lib.hid (ha.keep hbn).drew
  have NX := Lib.hid hx
  have NY := Lib.hid hy
  clear hb0 x0 y0 ha hb hx hy hbn xn yn dn
  go_enter Tryz.func31, Tryz.ntmps31
  go_wp2
  go_region_held3 (fun W => W.cell? ⟨w.heap.size, 0, none⟩ = some (.bool s) ∧ W.cell? ⟨w.heap.size, 1, none⟩ = some (.slice A n ca) ∧ W.cell? ⟨w.heap.size + 1, 0, none⟩ = some (.bool t) ∧ W.cell? ⟨w.heap.size + 1, 1, none⟩ = some (.slice B m cb))
    ((refine ⟨Bx.c0 (A := A) (n := n) (c := ca) ?_, Bx.c1 (b := s) ?_, Bx.c0 (A := B) (n := m) (c := cb) ?_, Bx.c1 (b := t) ?_⟩ <;> (repeat' (first | (with_reducible exact Hid.out (by assumption)) | (with_reducible refine Bx.alloc ?_ _) | (with_reducible refine Bx.set ?_ _ (by simp <;> omega))))))
    (first
      | (go_at_call 83; (with_reducible refine H1.out.mono ?_); rintro e w2 ⟨s2, A2, n2, c2, rfl, hv2, hb2⟩; have X2 := Lib.hid (X1.out.below hb2); have Y2 := Lib.hid (Y1.out.below hb2); have ly2 := Y2.out.lt; have HB2 := Lib.hid (HB1.out.trans (hb2.mono HB1.out.size)); have H2 := Lib.hid (rplus_int (VX1.out.keep hb2) hv2 (fit_of NX.out) (fit_neg (fit_of NY.out))); have H2p := Lib.hid (rplus_int ((VX1.out.keep hb2).alloc (.cells #[.bool false, .slice none 0 0] 38)) (hv2.alloc (.cells #[.bool false, .slice none 0 0] 38)) (fit_of NX.out) (fit_neg (fit_of NY.out))); clear hv2 hb2)
      | (go_at_call 83; (with_reducible refine H1p.out.mono ?_); rintro e w2 ⟨s2, A2, n2, c2, rfl, hv2, hb2⟩; have X2 := Lib.hid (XN.out.below hb2); have Y2 := Lib.hid (YN.out.below hb2); have D2 := Lib.hid (DN.out.below hb2); have HB2 := Lib.hid (HBN.out.trans (hb2.mono HBN.out.size)); have H2q := Lib.hid (rplus_int (VXN.out.keep hb2) hv2 (fit_of NX.out) (fit_neg (fit_of NY.out))); clear hv2 hb2)
      | (go_at_call 82; (with_reducible refine H2.out.mono ?_); rintro e w5 ⟨s5, A5, n5, c5, rfl, hv5, hb5⟩; have X5 := Lib.hid (X2.out.below hb5); have Y5 := Lib.hid (Y2.out.below hb5); have HB5 := Lib.hid (HB2.out.trans (hb5.mono HB2.out.size)); have HV5 := Lib.hid hv5; clear hv5 hb5)
      | (go_at_call 82; (with_reducible refine H2p.out.mono ?_); rintro e w5 ⟨s5, A5, n5, c5, rfl, hv5, hb5⟩; have X5 := Lib.hid ((X2.out.alloc _).below hb5); have Y5 := Lib.hid ((Y2.out.alloc _).below hb5); have hbn := HB2.out.alloc HB2.out.size (.cells #[.bool false, .slice none 0 0] 38); have D5 := Lib.hid ((Bx.new w2 false none 0 0).below hb5); have HB5 := Lib.hid (hbn.trans (hb5.mono hbn.size)); have HG := Lib.hid HB2.out.size; have HV5 := Lib.hid hv5; obtain ⟨q0, q1, z0, z1, zl⟩ := D5.out.facts; clear hv5 hb5 hbn)
      | (go_at_call 82; (with_reducible refine H2q.out.mono ?_); rintro e w5 ⟨s5, A5, n5, c5, rfl, hv5, hb5⟩; have X5 := Lib.hid (X2.out.below hb5); have Y5 := Lib.hid (Y2.out.below hb5); have D5 := Lib.hid (D2.out.below hb5); have HB5 := Lib.hid (HB2.out.trans (hb5.mono HB2.out.size)); have HV5 := Lib.hid hv5; obtain ⟨q0, q1, z0, z1, zl⟩ := D5.out.facts; clear hv5 hb5))
  all_goals
    first
    | (obtain ⟨W6, hW6, Z6, hb6, -, -, -, -⟩ := stored_world D5.out HB5.out (by first | omega | exact HG.out) s5 A5 n5 c5
       rw [hW6]
       have HE := Lib.hid hb6
       clear q0 q1 z0 z1 zl hW6
       obtain ⟨q0, q1, z0, z1, zl⟩ := Z6.facts
       clear Z6 hb6)
    | have HE := Lib.hid (HB5.out.alloc HB5.out.size (.cells #[.bool s5, .slice A5 n5 c5] 38))
    have hp := HV5.out.parts
    have hn := hp.2.2.1 (fit_add NX.out (big_neg NY.out))
    have HN := Lib.hid hp.2.1
    have HS := Lib.hid hp.1
    clear hp
    rcases Int.lt_trichotomy x y with h | h | h
    · have h0 : ((n5 : Int) == 0) = false := by
        have := HN.out
        simp
        omega
      have hs : s5 = true := by rw [HS.out]; exact decide_eq_true (by omega)
      have HH := Lib.hid h
      clear h
      subst hs
      go_wp2
      go_ret
      exact ⟨by first | (rw [cmpI_lt HH.out]; done) | (rw [cmpI_lt HH.out]; rfl), HE.out⟩
    · have h0 : ((n5 : Int) == 0) = true := by
        have := HN.out
        simp
        omega
      have HH := Lib.hid h
      clear h
      go_wp2
      go_ret
      exact ⟨by first | (rw [cmpI_eq HH.out]; done) | (rw [cmpI_eq HH.out]; rfl), HE.out⟩
    · have h0 : ((n5 : Int) == 0) = false := by
        have := HN.out
        simp
        omega
      have hs : s5 = false := by rw [HS.out]; exact decide_eq_false (by omega)
      have HH := Lib.hid h
      clear h
      subst hs
      go_wp2
      go_ret
      exact ⟨by first | (rw [cmpI_gt HH.out]; done) | (rw [cmpI_gt HH.out]; rfl), HE.out⟩
theorem rcmp2_int {va vb : Value} {x y : Int} {w : World} (ha : IntR w va x) (hb : IntR w vb y) (hx : ¬ BigI x) (hy : ¬ BigI y) : Calls Tryz.prog 31 #[va, vb] w fun e w' => e = .returned (.int .i64 (cmpI x y)) ∧ Below w.heap.size w w' := by
  obtain ⟨A, n, ca, rfl⟩ := ha.bx
  obtain ⟨B, m, cb, rfl⟩ := hb.bx
  exact rcmp2_any _ _ A B n ca m cb w x y ha hb hx hy


/-- structs that lie in these blocks -/
def Bxs (w : World) (L : List (Nat × Bool × Option Addr × Nat × Nat)) : Prop := ∀ p ∈ L, Bx w p.1 p.2.1 p.2.2.1 p.2.2.2.1 p.2.2.2.2
/-- values that read as these whole numbers -/
def Rs (w : World) (L : List (Value × Int)) : Prop := ∀ p ∈ L, IntR w p.1 p.2
section
variable {w w' : World} {L : List (Nat × Bool × Option Addr × Nat × Nat)} {M : List (Value × Int)}
theorem Bxs.nil : Bxs w [] := fun p h => by cases h
theorem Bxs.cons {g : Nat} {b : Bool} {A : Option Addr} {n c : Nat} (h : Bx w g b A n c) (hs : Bxs w L) : Bxs w ((g, b, A, n, c) :: L) := fun p hp => by
  rcases List.mem_cons.1 hp with rfl | hp
  · exact h
  · exact hs p hp
theorem Bxs.below (h : Bxs w L) (hb : Below w.heap.size w w') : Bxs w' L := fun p hp => (h p hp).below hb
theorem Bxs.alloc (h : Bxs w L) (o : Obj) : Bxs (w.alloc o) L := fun p hp => (h p hp).alloc o
theorem Bxs.drew (h : Bxs w L) : Bxs w.drew L := h
theorem Bxs.new (h : Bxs w L) (b : Bool) (A : Option Addr) (n c : Nat) : Bxs (w.alloc (.cells #[.bool b, .slice A n c] 38)) ((w.heap.size, b, A, n, c) :: L) := (h.alloc _).cons (Bx.new w b A n c)
theorem Bxs.hd {g : Nat} {b : Bool} {A : Option Addr} {n c : Nat} (h : Bxs w ((g, b, A, n, c) :: L)) : Bx w g b A n c := h _ (List.mem_cons_self ..)
theorem Bxs.tl {p : Nat × Bool × Option Addr × Nat × Nat} (h : Bxs w (p :: L)) : Bxs w L := fun q hq => h q (List.mem_cons_of_mem _ hq)
theorem Rs.nil : Rs w [] := fun p h => by cases h
theorem Rs.cons {v : Value} {z : Int} (h : IntR w v z) (hs : Rs w M) : Rs w ((v, z) :: M) := fun p hp => by
  rcases List.mem_cons.1 hp with rfl | hp
  · exact h
  · exact hs p hp
theorem Rs.keep (h : Rs w M) (hb : Below w.heap.size w w') : Rs w' M := fun p hp => (h p hp).keep hb
theorem Rs.alloc (h : Rs w M) (o : Obj) : Rs (w.alloc o) M := fun p hp => (h p hp).alloc o
theorem Rs.drew (h : Rs w M) : Rs w.drew M := h.keep (Below.refl _ _).drew
theorem Rs.hd {v : Value} {z : Int} (h : Rs w ((v, z) :: M)) : IntR w v z := h _ (List.mem_cons_self ..)
theorem Rs.tl {p : Value × Int} (h : Rs w (p :: M)) : Rs w M := fun q hq => h q (List.mem_cons_of_mem _ hq)
end
/-- the outcome of a reckoning that may be too great, by one number -/
def Out (z zr er : Int) : Prop := (BigI z ∧ er = 11 ∧ zr = 0) ∨ (¬ BigI z ∧ er = 0 ∧ zr = z)
theorem Out.same {z a b e f : Int} (h : Out z a e) (k : Out z b f) : a = b ∧ e = f := by
  rcases h with ⟨h1, rfl, rfl⟩ | ⟨h1, rfl, rfl⟩ <;> rcases k with ⟨k1, rfl, rfl⟩ | ⟨k1, rfl, rfl⟩
  · exact ⟨rfl, rfl⟩
  · exact absurd h1 k1
  · exact absurd k1 h1
  · exact ⟨rfl, rfl⟩
theorem bigI_zero : ¬ BigI 0 := not_big_zero
theorem Out.fit {z a e : Int} (h : Out z a e) : ¬ BigI a := by
  rcases h with ⟨_, _, rfl⟩ | ⟨h1, _, rfl⟩
  · exact bigI_zero
  · exact h1
theorem RetE.out {w w' : World} {z : Int} {e : Ending} (h : RetE w z e w') : ∃ s A n c er zr, e = .returned (.tuple #[.agg #[.bool s, .slice A n c], .int .i64 er]) ∧ IntV w' (.agg #[.bool s, .slice A n c]) zr ∧ Out z zr er ∧ Below w.heap.size w w' := by
  obtain ⟨s, A, n, c, er, rfl, ⟨h1, h2, h3⟩ | ⟨h1, h2, h3⟩, hb⟩ := h
  · exact ⟨s, A, n, c, er, 0, rfl, h3, .inl ⟨h1, h2, rfl⟩, hb⟩
  · exact ⟨s, A, n, c, er, z, rfl, h3, .inr ⟨h1, h2, rfl⟩, hb⟩
theorem RetC.out {w w' : World} {z : Int} {e : Ending} (h : RetC w z e w') : ∃ s A n c er zr, e = .returned (.tuple #[.agg #[.bool s, .slice A n c], .int .i64 er]) ∧ IntR w' (.agg #[.bool s, .slice A n c]) zr ∧ Out z zr er ∧ Below w.heap.size w w' := by
  obtain ⟨s, A, n, c, er, rfl, ⟨h1, h2, h3⟩ | ⟨h1, h2, h3⟩, hb⟩ := h
  · exact ⟨s, A, n, c, er, 0, rfl, h3, .inl ⟨h1, h2, rfl⟩, hb⟩
  · exact ⟨s, A, n, c, er, z, rfl, h3, .inr ⟨h1, h2, rfl⟩, hb⟩
/-- the document's Same of the same number -/
theorem rsame2_yes {va vb : Value} {x : Int} {w : World} (ha : IntR w va x) (hb : IntR w vb x) (hx : ¬ BigI x) : Calls Tryz.prog 29 #[va, vb] w fun e w' => e = .returned (.bool true) ∧ Below w.heap.size w w' := by
  have h := rsame2_int ha hb (fit_of hx)
  rw [decide_eq_true (rfl : x = x)] at h
  exact h

end LM
end Go.Proofs.YtpaefbojilnnnaaGreatDoor

namespace Go.Proofs.YtpaefbojilnnnaaGreatDoor
open Go.RowKit
namespace LM
set_option linter.unusedVariables false

/-- what a division comes to -/
def QOut (x y q r e : Int) : Prop := (y = 0 ∧ e = 12 ∧ q = 0 ∧ r = 0) ∨ (y ≠ 0 ∧ e = 0 ∧ q = quoI x y ∧ r = remI x y)
def MOut (x y m e : Int) : Prop := (y = 0 ∧ e = 12 ∧ m = 0) ∨ (y ≠ 0 ∧ e = 0 ∧ m = modI x y)
theorem QOut.same {x y a b c d e f : Int} (h : QOut x y a b e) (k : QOut x y c d f) : a = c ∧ b = d ∧ e = f := by
  rcases h with ⟨h1, rfl, rfl, rfl⟩ | ⟨h1, rfl, rfl, rfl⟩ <;> rcases k with ⟨k1, rfl, rfl, rfl⟩ | ⟨k1, rfl, rfl, rfl⟩
  · exact ⟨rfl, rfl, rfl⟩
  · exact absurd h1 k1
  · exact absurd k1 h1
  · exact ⟨rfl, rfl, rfl⟩
theorem MOut.same {x y a b e f : Int} (h : MOut x y a e) (k : MOut x y b f) : a = b ∧ e = f := by
  rcases h with ⟨h1, rfl, rfl⟩ | ⟨h1, rfl, rfl⟩ <;> rcases k with ⟨k1, rfl, rfl⟩ | ⟨k1, rfl, rfl⟩
  · exact ⟨rfl, rfl⟩
  · exact absurd h1 k1
  · exact absurd k1 h1
  · exact ⟨rfl, rfl⟩
theorem QOut.fit {x y q r e : Int} (h : QOut x y q r e) (hx : ¬ BigI x) : ¬ BigI q ∧ ¬ BigI r := by
  rcases h with ⟨_, _, rfl, rfl⟩ | ⟨_, _, rfl, rfl⟩
  · exact ⟨bigI_zero, bigI_zero⟩
  · exact ⟨quo_not_big hx, rem_not_big hx⟩
theorem MOut.fit {x y m e : Int} (h : MOut x y m e) (hy : ¬ BigI y) : ¬ BigI m := by
  rcases h with ⟨_, _, rfl⟩ | ⟨h, _, rfl⟩
  · exact bigI_zero
  · exact fun hb => hy (hb.mono (Nat.le_of_lt (mod_lt_abs x y h)))
theorem RetQ.out {w w' : World} {x y : Int} {e : Ending} (h : RetQ w x y e w') : ∃ s A n c s' A' n' c' er q r, e = .returned (.tuple #[.agg #[.bool s, .slice A n c], .agg #[.bool s', .slice A' n' c'], .int .i64 er]) ∧
    IntV w' (.agg #[.bool s, .slice A n c]) q ∧ IntV w' (.agg #[.bool s', .slice A' n' c']) r ∧ QOut x y q r er ∧ Below w.heap.size w w' := by
  obtain ⟨s, A, n, c, s', A', n', c', er, rfl, ⟨h1, h2, h3, h4⟩ | ⟨h1, h2, h3, h4⟩, hb⟩ := h
  · exact ⟨s, A, n, c, s', A', n', c', er, 0, 0, rfl, h3, h4, .inl ⟨h1, h2, rfl, rfl⟩, hb⟩
  · exact ⟨s, A, n, c, s', A', n', c', er, _, _, rfl, h3, h4, .inr ⟨h1, h2, rfl, rfl⟩, hb⟩
theorem RetM.out {w w' : World} {x y : Int} {e : Ending} (h : RetM w x y e w') : ∃ s A n c er m, e = .returned (.tuple #[.agg #[.bool s, .slice A n c], .int .i64 er]) ∧ IntV w' (.agg #[.bool s, .slice A n c]) m ∧ MOut x y m er ∧ Below w.heap.size w w' := by
  obtain ⟨s, A, n, c, er, rfl, ⟨h1, h2, h3⟩ | ⟨h1, h2, h3⟩, hb⟩ := h
  · exact ⟨s, A, n, c, er, 0, rfl, h3, .inl ⟨h1, h2, rfl⟩, hb⟩
  · exact ⟨s, A, n, c, er, _, rfl, h3, .inr ⟨h1, h2, rfl⟩, hb⟩
/-- the document's division -/
def RetQR (w : World) (x y : Int) (e : Ending) (w' : World) : Prop := ∃ s A n c s' A' n' c' er q r, e = .returned (.tuple #[.agg #[.bool s, .slice A n c], .agg #[.bool s', .slice A' n' c'], .int .i64 er]) ∧
    IntR w' (.agg #[.bool s, .slice A n c]) q ∧ IntR w' (.agg #[.bool s', .slice A' n' c']) r ∧ QOut x y q r er ∧ Below w.heap.size w w'
def RetMR (w : World) (x y : Int) (e : Ending) (w' : World) : Prop := ∃ s A n c er m, e = .returned (.tuple #[.agg #[.bool s, .slice A n c], .int .i64 er]) ∧ IntR w' (.agg #[.bool s, .slice A n c]) m ∧ MOut x y m er ∧ Below w.heap.size w w'

set_option maxRecDepth 100000 in
set_option maxHeartbeats 2000000 in
theorem rquo_nil (s t : Bool) (A B : Option Addr) (ca cb : Nat) (xs ys : List Nat) (w : World) (ha : Rd w A xs) (hb : Rd w B ys) (hx : Can xs) (hy : Can ys) (hxl : xs.length ≤ 64) (hyl : ys.length ≤ 64) (x y : Int) (hs : s = decide (x < 0)) (ht : t = decide (y < 0)) (hxv : val xs = x.natAbs) (hyv : val ys = y.natAbs) (h0 : ys.length = 0) :
    Calls Tryz.prog 105 #[.agg #[.bool s, .slice A xs.length ca], .agg #[.bool t, .slice B ys.length cb]] w (RetQR w x y) := by
  have hz : ((ys.length : Int) == 0) = true := by simp; exact List.eq_nil_of_length_eq_zero h0
  obtain ⟨hb0, -, -, -, -⟩ := new4 w s t A B xs.length ca ys.length cb
  have HB0 := Lib.hid hb0
  have HY0 := Lib.hid (show y = 0 by have := (can_zero hy).1 h0; omega)
  clear hb0 ha hb hx hy hs ht hxv hyv h0
  go_enter Tryz.func105, Tryz.ntmps105
  go_wp2
  refine bodyPost_ret (v := .tuple #[.agg #[.bool false, .slice none 0 0], .agg #[.bool false, .slice none 0 0], .int .i64 12]) (by simp [results, Tryz.results105, go_sem]) rfl ?_
  exact ⟨_, _, _, _, _, _, _, _, _, 0, 0, rfl, intR_nil _, intR_nil _, .inl ⟨HY0.out, rfl, rfl, rfl⟩, HB0.out⟩

set_option maxRecDepth 100000 in
set_option maxHeartbeats 2000000 in
theorem rquo_some (s t : Bool) (A B : Option Addr) (ca cb : Nat) (xs ys : List Nat) (w : World) (ha : Rd w A xs) (hb : Rd w B ys) (hx : Can xs) (hy : Can ys) (hxl : xs.length ≤ 64) (hyl : ys.length ≤ 64) (x y : Int) (hs : s = decide (x < 0)) (ht : t = decide (y < 0)) (hxv : val xs = x.natAbs) (hyv : val ys = y.natAbs) (h0 : 0 < ys.length) :
    Calls Tryz.prog 105 #[.agg #[.bool s, .slice A xs.length ca], .agg #[.bool t, .slice B ys.length cb]] w (RetQR w x y) := by
  have hz : ((ys.length : Int) == 0) = false := by simp; intro h; rw [h] at h0; simp at h0
  obtain ⟨hb0, x0, y0, z0, v0⟩ := new4 w s t A B xs.length ca ys.length cb
  have HB0 := Lib.hid hb0
  have X0 := Lib.hid x0
  have Y0 := Lib.hid y0
  have Z0 := Lib.hid z0
  have V0 := Lib.hid v0
  have H1 := Lib.hid (rsplit_any A B ca cb xs ys _ (ha.below hb0) (hb.below hb0) hx.1 hy.1 (by omega) (by omega) ((can_pos hy).1 h0))
  have LX := Lib.hid (Nat.lt_of_lt_of_le (val_len_lt hx.1 hxl) (Nat.pow_le_pow_right (by decide) (show 64 ≤ 200 by decide)))
  have HY0 := Lib.hid (show y ≠ 0 by have := (can_pos hy).1 h0; omega)
  have HS := Lib.hid hs
  have HT := Lib.hid ht
  have HXV := Lib.hid hxv
  have HYV := Lib.hid hyv
  clear hb0 x0 y0 z0 v0 ha hb hx hy hs ht hxv hyv h0
  go_enter Tryz.func105, Tryz.ntmps105
  go_wp2_with fail
  refine H1.out.mono ?_
  rintro e w1 ⟨⟨q, r, rfl, ⟨A1, c1, r1, rfl, -, a3, a4, a5⟩, ⟨A2, c2, r2, rfl, -, b3, b4, b5⟩⟩, hb1⟩
  have X1 := Lib.hid (X0.out.below hb1).drew
  have Y1 := Lib.hid (Y0.out.below hb1).drew
  have Z1 := Lib.hid (Z0.out.below hb1).drew
  have V1 := Lib.hid (V0.out.below hb1).drew
  have HB1 := Lib.hid (HB0.out.trans (hb1.mono HB0.out.size)).drew
  have l1 := numr_len a4 (by rw [a5]; exact Nat.lt_of_le_of_lt (Nat.div_le_self _ _) LX.out)
  have l2 := numr_len b4 (by rw [b5]; exact Nat.lt_of_le_of_lt (Nat.mod_le _ _) LX.out)
  have S1 := Lib.hid (rmade_num (!(s == t)) A1 c1 r1 w1.drew l1 (a3.drew) a4)
  have R3 := Lib.hid b3.drew
  have R4 := Lib.hid b4
  have A5 := Lib.hid a5
  have B5 := Lib.hid b5
  clear hb1 a3 a4 b3 b4 a5 b5
  go_wp2
  go_region_held3 (fun W => W.cell? ⟨w.heap.size, 0, none⟩ = some (.bool s) ∧ W.cell? ⟨w.heap.size + 1, 0, none⟩ = some (.bool t))
    ((refine ⟨Bx.c0 (A := A) (n := xs.length) (c := ca) ?_, Bx.c0 (A := B) (n := ys.length) (c := cb) ?_⟩ <;> (repeat' (first | (with_reducible exact Hid.out (by assumption)) | refine Bx.set ?_ _ (by simp <;> omega)))))
    (first
      | (go_at_call 149; (with_reducible refine S1.out.mono ?_); rintro e w2 ⟨s3, A3, n3, c3, rfl, hv, hb2⟩; have X2 := Lib.hid (X1.out.below hb2); have Y2 := Lib.hid (Y1.out.below hb2); have Z2 := Lib.hid (Z1.out.below hb2); have V2 := Lib.hid (V1.out.below hb2); have HB2 := Lib.hid (HB1.out.trans (hb2.mono HB1.out.size)); have S2 := Lib.hid (rmade_num s A2 c2 r2 w2 l2 (R3.out.below hb2) R4.out); have HV2 := Lib.hid hv; clear hv hb2)
      | (go_at_call 149; (with_reducible refine S2.out.mono ?_); rintro e w3 ⟨s4, A4, n4, c4, rfl, hv, hb3⟩; have X3 := Lib.hid (X2.out.below hb3); have Y3 := Lib.hid (Y2.out.below hb3); have Z3 := Lib.hid (Z2.out.below hb3); have V3 := Lib.hid (V2.out.below hb3); have HB3 := Lib.hid (HB2.out.trans (hb3.mono HB2.out.size)); have HV3 := Lib.hid (HV2.out.keep hb3); have HR3 := Lib.hid hv; obtain ⟨q0, q1, z0, z1, zl⟩ := Z3.out.facts; obtain ⟨u0, u1, v0, v1, vl⟩ := V3.out.facts; clear hv hb3))
  all_goals
    first
    | (obtain ⟨W4, hW4, Z4, hb4, -, hv4, hx4, -⟩ := stored_world Z3.out HB3.out (by omega) s3 A3 n3 c3
       rw [hW4]
       obtain ⟨W5, hW5, V5, hb5, -, hv5, hx5, -⟩ := stored_world (hx4 _ _ _ _ _ (by omega) V3.out) hb4 (by omega) s4 A4 n4 c4
       rw [hW5]
       have Z5 := hx5 _ _ _ _ _ (by omega) Z4)
    | (obtain ⟨W4, hW4, V4, hb4, -, hv4, hx4, -⟩ := stored_world V3.out HB3.out (by omega) s4 A4 n4 c4
       rw [hW4]
       obtain ⟨W5, hW5, Z5, hb5, -, hv5, hx5, -⟩ := stored_world (hx4 _ _ _ _ _ (by omega) Z3.out) hb4 (by omega) s3 A3 n3 c3
       rw [hW5]
       have V5 := hx5 _ _ _ _ _ (by omega) V4)
    have HQ5 := Lib.hid (hv5 _ _ (hv4 _ _ HV3.out))
    have HR5 := Lib.hid (hv5 _ _ (hv4 _ _ HR3.out))
    obtain ⟨d0, d1, -, -, -⟩ := Z5.facts
    obtain ⟨f0, f1, -, -, -⟩ := V5.facts
    have HB5 := Lib.hid hb5
    clear hW4 hW5 hx4 hx5 hv4 hv5 hb4 hb5 Z5 V5 q0 q1 z0 z1 zl u0 u1 v0 v1 vl
    go_wp2
    refine bodyPost_ret (v := .tuple #[.agg #[.bool s3, .slice A3 n3 c3], .agg #[.bool s4, .slice A4 n4 c4], .int .i64 0]) (by simp [results, Tryz.results105, go_sem, d0, d1, f0, f1]) rfl ?_
    refine ⟨_, _, _, _, _, _, _, _, _, _, _, rfl, HQ5.out, HR5.out, .inr ⟨HY0.out, rfl, ?_, ?_⟩, HB5.out⟩
    · rw [A5.out, HXV.out, HYV.out, HS.out, HT.out]; rfl
    · rw [B5.out, HXV.out, HYV.out, HS.out]; rfl
theorem rquo2_int {va vb : Value} {x y : Int} {w : World} (ha : IntR w va x) (hb : IntR w vb y) (hx : ¬ BigI x) (hy : ¬ BigI y) : Calls Tryz.prog 105 #[va, vb] w (RetQR w x y) := by
  obtain ⟨A, ca, xs, rfl, h3, h4, h5⟩ := ha
  obtain ⟨B, cb, ys, rfl, k3, k4, k5⟩ := hb
  have l1 : xs.length ≤ 64 := len_not_big h4 (by rw [h5]; exact hx)
  have l2 : ys.length ≤ 64 := len_not_big k4 (by rw [k5]; exact hy)
  rcases Nat.eq_zero_or_pos ys.length with h | h
  · exact rquo_nil _ _ A B ca cb xs ys w h3 k3 h4 k4 l1 l2 x y rfl rfl h5 k5 h
  · exact rquo_some _ _ A B ca cb xs ys w h3 k3 h4 k4 l1 l2 x y rfl rfl h5 k5 h

set_option maxRecDepth 100000 in
set_option maxHeartbeats 2000000 in
theorem rmod_any (s t : Bool) (A B : Option Addr) (n ca m cb : Nat) (w : World) (x y : Int) (ha : IntR w (.agg #[.bool s, .slice A n ca]) x) (hb : IntR w (.agg #[.bool t, .slice B m cb]) y) (hx : ¬ BigI x) (hy : ¬ BigI y) :
    Calls Tryz.prog 102 #[.agg #[.bool s, .slice A n ca], .agg #[.bool t, .slice B m cb]] w (RetMR w x y) := by
  obtain ⟨hb0, x0, y0, z0⟩ := new3 w s t A B n ca m cb
  have HB0 := Lib.hid hb0
  have X0 := Lib.hid x0
  have Y0 := Lib.hid y0
  have Z0 := Lib.hid z0
  have H1 := Lib.hid (rquo2_int (ha.keep hb0) (hb.keep hb0) hx hy)
  have HY := Lib.hid (hb.keep hb0)
  have HT := Lib.hid hb.parts.1
  have NX := Lib.hid hx
  have NY := Lib.hid hy
  clear hb0 x0 y0 z0 ha hb hx hy
  go_enter Tryz.func102, Tryz.ntmps102
  go_wp2_with fail
  refine H1.out.mono ?_
  rintro e w1 ⟨s1, A1, n1, c1, s2, A2, n2, c2, er, zq, zr, rfl, -, hzr, hcase, hb1⟩
  have X1 := Lib.hid (X0.out.below hb1)
  have Y1 := Lib.hid (Y0.out.below hb1)
  have Z1 := Lib.hid (Z0.out.below hb1)
  have HY1 := Lib.hid (HY.out.keep hb1)
  have HB1 := Lib.hid (HB0.out.trans (hb1.mono HB0.out.size))
  obtain ⟨p0, p1, -, -, pl⟩ := X1.out.facts
  obtain ⟨t0, t1, -, -, tl⟩ := Y1.out.facts
  obtain ⟨q0, q1, z0, z1, zl⟩ := Z1.out.facts
  obtain ⟨hs2, hn2, hcm, -⟩ := hzr.parts
  have hn2m : n2 ≤ 130 := hcm (fit_of (QOut.fit hcase NX.out).2)
  have HZ := Lib.hid hzr
  have HS2 := Lib.hid hs2
  have HN2 := Lib.hid hn2
  clear hb1 hzr hs2 hn2 hcm
  rcases hcase with ⟨h1, rfl, _, h3⟩ | ⟨h1, rfl, _, h3⟩
  · have H1y := Lib.hid h1
    have H3 := Lib.hid h3
    clear h1 h3
    go_wp2
    obtain ⟨W3, hW3, Z, hb3, -, hv3, -, -⟩ := stored_world Z1.out HB1.out (by omega) s2 A2 n2 c2
    rw [hW3]
    have HV3 := Lib.hid ((hv3 _ _ HZ.out).alloc (.cells #[.bool s1, .slice A1 n1 c1] 38))
    have hb4 : Below w.heap.size w (W3.alloc (.cells #[.bool s1, .slice A1 n1 c1] 38)) := hb3.alloc hb3.size _
    have HV4 := Lib.hid (HV3.out.alloc (.cells #[.bool s2, .slice A2 n2 c2] 38))
    have HB4 := Lib.hid (hb4.alloc hb4.size (.cells #[.bool s2, .slice A2 n2 c2] 38))
    obtain ⟨c0, c1, -, -, cl⟩ := Z.facts
    clear q0 q1 z0 z1 zl p0 p1 pl t0 t1 tl hW3 hv3 hb3 hb4
    refine bodyPost_ret (v := .tuple #[.agg #[.bool s2, .slice A2 n2 c2], .int .i64 12]) (by simp [results, Tryz.results102, go_sem, c0, c1, cl, Nat.lt_succ_of_lt cl]) rfl ?_
    exact ⟨_, _, _, _, _, _, rfl, HV4.out, .inl ⟨H1y.out, rfl, H3.out⟩, HB4.out⟩
  · have H1y := Lib.hid h1
    have H3 := Lib.hid h3
    clear h1 h3
    by_cases h0 : n2 = 0
    · have HZR := Lib.hid (HN2.out.1 h0)
      subst h0
      have hd : decide (0 < 0) = false := rfl
      go_wp2
      obtain ⟨W3, hW3, Z, hb3, -, hv3, -, -⟩ := stored_world Z1.out HB1.out (by omega) s2 A2 0 c2
      rw [hW3]
      have HV3 := Lib.hid ((hv3 _ _ HZ.out).alloc (.cells #[.bool s1, .slice A1 n1 c1] 38))
      have hb4 : Below w.heap.size w (W3.alloc (.cells #[.bool s1, .slice A1 n1 c1] 38)) := hb3.alloc hb3.size _
      have HV4 := Lib.hid (HV3.out.alloc (.cells #[.bool s2, .slice A2 0 c2] 38))
      have HB4 := Lib.hid (hb4.alloc hb4.size (.cells #[.bool s2, .slice A2 0 c2] 38))
      obtain ⟨c0, c1, -, -, cl⟩ := Z.facts
      clear q0 q1 z0 z1 zl p0 p1 pl t0 t1 tl hW3 hv3 hb3 hb4
      refine bodyPost_ret (v := .tuple #[.agg #[.bool s2, .slice A2 0 c2], .int .i64 0]) (by simp [results, Tryz.results102, go_sem, c0, c1, cl, Nat.lt_succ_of_lt cl]) rfl ?_
      exact ⟨_, _, _, _, _, _, rfl, HV4.out, .inr ⟨H1y.out, rfl, by unfold modI; rw [if_neg (fun h => h.1 (by rw [← H3.out]; exact HZR.out))]; exact H3.out⟩, HB4.out⟩
    · have hd : decide (0 < n2) = true := decide_eq_true (by omega)
      have HZ0 : Hid (zr ≠ 0) := Lib.hid (fun h => h0 (HN2.out.2 h))
      clear h0
      by_cases hst : s2 = t
      · have HST := Lib.hid hst
        have hbt : (s2 == t) = true := by simp [hst]
        clear hst
        go_wp2
        obtain ⟨W3, hW3, Z, hb3, -, hv3, -, -⟩ := stored_world Z1.out HB1.out (by omega) s2 A2 n2 c2
        rw [hW3]
        have HV3 := Lib.hid ((hv3 _ _ HZ.out).alloc (.cells #[.bool s1, .slice A1 n1 c1] 38))
        have hb4 : Below w.heap.size w (W3.alloc (.cells #[.bool s1, .slice A1 n1 c1] 38)) := hb3.alloc hb3.size _
        have HV4 := Lib.hid (HV3.out.alloc (.cells #[.bool s2, .slice A2 n2 c2] 38))
        have HB4 := Lib.hid (hb4.alloc hb4.size (.cells #[.bool s2, .slice A2 n2 c2] 38))
        obtain ⟨c0, c1, -, -, cl⟩ := Z.facts
        clear q0 q1 z0 z1 zl p0 p1 pl t0 t1 tl hW3 hv3 hb3 hb4
        refine bodyPost_ret (v := .tuple #[.agg #[.bool s2, .slice A2 n2 c2], .int .i64 0]) (by simp [results, Tryz.results102, go_sem, c0, c1, cl, Nat.lt_succ_of_lt cl]) rfl ?_
        exact ⟨_, _, _, _, _, _, rfl, HV4.out, .inr ⟨H1y.out, rfl, by unfold modI; rw [if_neg (fun h => h.2 (by rw [← H3.out, ← HS2.out, ← HT.out]; exact HST.out))]; exact H3.out⟩, HB4.out⟩
      · have HST := Lib.hid hst
        have hbt : (s2 == t) = false := by simp [hst]
        clear hst
        have nz : FitI zr := by rw [H3.out]; exact fit_of (rem_not_big NX.out)
        have HW : Below w.heap.size w ((w1.alloc (.cells #[.bool s1, .slice A1 n1 c1] 38)).alloc (.cells #[.bool s2, .slice A2 n2 c2] 38)) := (HB1.out.alloc HB1.out.size _).alloc (by have := HB1.out.size; simp; omega) _
        have HBW := Lib.hid HW
        have H2 := Lib.hid (rplus_int ((HZ.out.alloc (.cells #[.bool s1, .slice A1 n1 c1] 38)).alloc (.cells #[.bool s2, .slice A2 n2 c2] 38)) ((HY1.out.alloc (.cells #[.bool s1, .slice A1 n1 c1] 38)).alloc (.cells #[.bool s2, .slice A2 n2 c2] 38)) nz (fit_of NY.out))
        have ZW := Lib.hid ((Z1.out.alloc (.cells #[.bool s1, .slice A1 n1 c1] 38)).alloc (.cells #[.bool s2, .slice A2 n2 c2] 38))
        have rw0 := Bx.new (w1.alloc (.cells #[.bool s1, .slice A1 n1 c1] 38)) s2 A2 n2 c2
        rw [World.size_alloc] at rw0
        have RW := Lib.hid rw0
        clear HW nz rw0
        go_wp2_with fail
        refine H2.out.mono ?_
        rintro e w2 ⟨s5, A5, n5, c5, rfl, hv, hb2⟩
        have Z2 := Lib.hid (ZW.out.below hb2)
        have R2 := Lib.hid (RW.out.below hb2)
        have HB2 := Lib.hid (HBW.out.trans (hb2.mono HBW.out.size))
        have HV := Lib.hid hv
        have HG : Hid (w.heap.size ≤ w1.heap.size + 1) := Lib.hid (by omega)
        have HNE : Hid (w.heap.size + 1 + 1 ≠ w1.heap.size + 1) := Lib.hid (by omega)
        have hgt : w.heap.size + 1 + 1 < w1.heap.size := zl
        clear hb2 hv q0 q1 z0 z1 zl p0 p1 pl t0 t1 tl
        obtain ⟨q0, q1, z0, z1, zl⟩ := Z2.out.facts
        obtain ⟨u0, u1, v0, v1, vl⟩ := R2.out.facts
        go_wp2
        obtain ⟨W3, hW3, Z3, hb3, -, hv3, hx3, -⟩ := stored_world R2.out HB2.out HG.out s5 A5 n5 c5
        rw [hW3]
        obtain ⟨W4, hW4, Z4, hb4, -, hv4, -, -⟩ := stored_world (hx3 _ _ _ _ _ HNE.out Z2.out) hb3 (by omega) s5 A5 n5 c5
        rw [hW4]
        have HV4 := Lib.hid (hv4 _ _ (hv3 _ _ HV.out))
        obtain ⟨c0, c1, -, -, -⟩ := Z4.facts
        clear q0 q1 z0 z1 zl u0 u1 v0 v1 vl hW3 hW4 hv3 hv4 hx3
        refine bodyPost_ret (v := .tuple #[.agg #[.bool s5, .slice A5 n5 c5], .int .i64 0]) (by simp [results, Tryz.results102, go_sem, c0, c1]) rfl ?_
        refine ⟨_, _, _, _, _, _, rfl, HV4.out, .inr ⟨H1y.out, rfl, ?_⟩, hb4⟩
        unfold modI
        rw [if_pos ⟨by rw [← H3.out]; exact HZ0.out, fun h => HST.out (by rw [← H3.out] at h; rw [HS2.out, HT.out]; exact h)⟩, ← H3.out]
theorem rmod2_int {va vb : Value} {x y : Int} {w : World} (ha : IntR w va x) (hb : IntR w vb y) (hx : ¬ BigI x) (hy : ¬ BigI y) : Calls Tryz.prog 102 #[va, vb] w (RetMR w x y) := by
  obtain ⟨A, n, ca, rfl⟩ := ha.bx
  obtain ⟨B, m, cb, rfl⟩ := hb.bx
  exact rmod_any _ _ A B n ca m cb w x y ha hb hx hy

end LM
end Go.Proofs.YtpaefbojilnnnaaGreatDoor

namespace Go.Proofs.YtpaefbojilnnnaaGreatDoor
open Go.RowKit
namespace LM
set_option linter.unusedVariables false

def PowE (w : World) (o : Option Int) (e : Ending) (w' : World) : Prop := ∃ s A n c er, e = .returned (.tuple #[.agg #[.bool s, .slice A n c], .int .i64 er]) ∧
  ((o = none ∧ er = 11 ∧ IntV w' (.agg #[.bool s, .slice A n c]) 0) ∨ (∃ z, o = some z ∧ er = 0 ∧ IntV w' (.agg #[.bool s, .slice A n c]) z)) ∧ Below w.heap.size w w'
theorem SmallE.inn' {x : Int} {e : Ending} (h : SmallE x e) (h1 : -9223372036854775808 ≤ x) (h2 : x ≤ 9223372036854775807) : e = .returned (.tuple #[.int .i64 x, .bool true]) := by
  rcases h with ⟨_, _, h3⟩ | ⟨h3, _⟩
  · exact h3
  · exact absurd ⟨h1, h2⟩ h3
/-- where Pow stands ahead of its rounds -/
def PwS (w wx : World) (g8 g9 : Nat) (p a : Int) : Prop := ∃ s8 A8 n8 c8 s9 A9 n9 c9, w.heap.size ≤ g8 ∧ w.heap.size ≤ g9 ∧ g8 ≠ g9 ∧ g8 ≠ w.heap.size + 1 + 1 ∧ g9 ≠ w.heap.size + 1 + 1 ∧
  Bx wx g8 s8 A8 n8 c8 ∧ Bx wx g9 s9 A9 n9 c9 ∧ Bx wx (w.heap.size + 1 + 1) false none 0 0 ∧ IntV wx (.agg #[.bool s8, .slice A8 n8 c8]) p ∧ IntV wx (.agg #[.bool s9, .slice A9 n9 c9]) a ∧ Below w.heap.size w wx

theorem le1 {w w2 : World} {o : Obj} (hb : Below (w.alloc o).drew.heap.size (w.alloc o).drew w2) : w.heap.size + 1 ≤ w2.heap.size := by
  have h : (w.alloc o).heap.size ≤ w2.heap.size := hb.size
  rw [World.size_alloc] at h
  exact h
theorem le2 {w w2 : World} {o o' : Obj} (hb : Below ((w.alloc o).alloc o').drew.heap.size ((w.alloc o).alloc o').drew w2) : w.heap.size + 1 + 1 ≤ w2.heap.size := by
  have h : ((w.alloc o).alloc o').heap.size ≤ w2.heap.size := hb.size
  rw [World.size_alloc, World.size_alloc] at h
  exact h
/-- blocks, and two whole numbers that abide -/
def Qs (w W : World) (L : List (Nat × Bool × Option Addr × Nat × Nat)) (v1 va : Value) (p a : Int) : Prop := Bxs W L ∧ IntV W v1 p ∧ IntV W va a ∧ Below w.heap.size w W
section
variable {w W : World} {L : List (Nat × Bool × Option Addr × Nat × Nat)} {v1 va : Value} {p a : Int}
theorem Qs.new (h : Qs w W L v1 va p a) (b : Bool) (A : Option Addr) (n c g : Nat) (hg : g = W.heap.size) : Qs w (W.alloc (.cells #[.bool b, .slice A n c] 38)) ((g, b, A, n, c) :: L) v1 va p a := by
  subst hg
  exact ⟨h.1.new b A n c, h.2.1.alloc _, h.2.2.1.alloc _, h.2.2.2.alloc h.2.2.2.size _⟩
theorem Bxs.setr {g : Nat} (h : Bxs W L) (hL : ∀ q ∈ L, q.1 ≠ g) (u u' : Value) : Bxs ((W.setCell ⟨g, 0, none⟩ u).setCell ⟨g, 1, none⟩ u') L := fun q hq => ((h q hq).set (p := ⟨g, 0, none⟩) u (hL q hq)).set (p := ⟨g, 1, none⟩) u' (hL q hq)
theorem Qs.st0 {g : Nat} {b : Bool} {A : Option Addr} {n c : Nat} (h : Qs w W ((g, b, A, n, c) :: L) v1 va p a) (hL : ∀ q ∈ L, q.1 ≠ g) (hg : w.heap.size ≤ g) (b' : Bool) (A' : Option Addr) (n' c' : Nat) :
    Qs w ((W.setCell ⟨g, 0, none⟩ (.bool b')).setCell ⟨g, 1, none⟩ (.slice A' n' c')) ((g, b', A', n', c') :: L) v1 va p a :=
  ⟨(h.1.tl.setr hL _ _).cons h.1.hd.stored, h.2.1.stored h.1.hd _ _, h.2.2.1.stored h.1.hd _ _, below_stored h.2.2.2 hg _ _⟩
theorem Qs.st1 {q0 : Nat × Bool × Option Addr × Nat × Nat} {g : Nat} {b : Bool} {A : Option Addr} {n c : Nat} (h : Qs w W (q0 :: (g, b, A, n, c) :: L) v1 va p a) (h0 : q0.1 ≠ g) (hL : ∀ q ∈ L, q.1 ≠ g) (hg : w.heap.size ≤ g) (b' : Bool) (A' : Option Addr) (n' c' : Nat) :
    Qs w ((W.setCell ⟨g, 0, none⟩ (.bool b')).setCell ⟨g, 1, none⟩ (.slice A' n' c')) (q0 :: (g, b', A', n', c') :: L) v1 va p a :=
  ⟨Bxs.cons (((h.1.hd).set (p := ⟨g, 0, none⟩) _ h0).set (p := ⟨g, 1, none⟩) _ h0) ((h.1.tl.tl.setr hL _ _).cons h.1.tl.hd.stored), h.2.1.stored h.1.tl.hd _ _, h.2.2.1.stored h.1.tl.hd _ _, below_stored h.2.2.2 hg _ _⟩
theorem one_ne {r g : Nat} {b : Bool} {A : Option Addr} {n c : Nat} (h : r ≠ g) : ∀ q ∈ [((r, b, A, n, c) : Nat × Bool × Option Addr × Nat × Nat)], q.1 ≠ g := fun q hq => by
  rw [List.mem_singleton] at hq
  subst hq
  exact h
theorem two_ne {r k g : Nat} {b b' : Bool} {A A' : Option Addr} {n c n' c' : Nat} (h : r ≠ g) (h' : k ≠ g) : ∀ q ∈ [((k, b', A', n', c') : Nat × Bool × Option Addr × Nat × Nat), (r, b, A, n, c)], q.1 ≠ g := fun q hq => by
  rcases List.mem_cons.1 hq with rfl | hq
  · exact h'
  · exact one_ne h q hq
theorem Qs.o89 {g8 g9 : Nat} {s8 s9 : Bool} {A8 A9 : Option Addr} {n8 c8 n9 c9 : Nat} (h : Qs w W [(g9, s9, A9, n9, c9), (g8, s8, A8, n8, c8), (w.heap.size + 1 + 1, false, none, 0, 0)] (.agg #[.bool s8, .slice A8 n8 c8]) (.agg #[.bool s9, .slice A9 n9 c9]) p a)
    (h8 : w.heap.size + 1 + 1 < g8) (h9 : w.heap.size + 1 + 1 < g9) (hn : g8 ≠ g9) : PwS w W g8 g9 p a :=
  ⟨_, _, _, _, _, _, _, _, by omega, by omega, hn, by omega, by omega, h.1.tl.hd, h.1.hd, h.1.tl.tl.hd, h.2.1, h.2.2.1, h.2.2.2⟩
theorem Qs.o98 {g8 g9 : Nat} {s8 s9 : Bool} {A8 A9 : Option Addr} {n8 c8 n9 c9 : Nat} (h : Qs w W [(g8, s8, A8, n8, c8), (g9, s9, A9, n9, c9), (w.heap.size + 1 + 1, false, none, 0, 0)] (.agg #[.bool s8, .slice A8 n8 c8]) (.agg #[.bool s9, .slice A9 n9 c9]) p a)
    (h8 : w.heap.size + 1 + 1 < g8) (h9 : w.heap.size + 1 + 1 < g9) (hn : g8 ≠ g9) : PwS w W g8 g9 p a :=
  ⟨_, _, _, _, _, _, _, _, by omega, by omega, hn, by omega, by omega, h.1.hd, h.1.tl.hd, h.1.tl.tl.hd, h.2.1, h.2.2.1, h.2.2.2⟩
end
theorem bel1 {B : Nat} {w W : World} (h : Below B w W) (o : Obj) (hB : B ≤ w.heap.size := by exact Nat.le_refl _) : Below B w (W.alloc o).drew := (h.alloc (Nat.le_trans hB h.size) o).drew
theorem bel2 {B : Nat} {w W : World} (h : Below B w W) (o o' : Obj) (hB : B ≤ w.heap.size := by exact Nat.le_refl _) : Below B w ((W.alloc o).alloc o').drew := ((h.alloc (Nat.le_trans hB h.size) o).alloc (Nat.le_trans hB (by have := h.size; simp; omega)) o').drew
theorem bel_trans {B : Nat} {w W w2 : World} (h : Below B w W) (hb : Below W.heap.size W w2) (hB : B ≤ w.heap.size := by exact Nat.le_refl _) : Below B w w2 := h.trans (hb.mono (Nat.le_trans hB h.size))
theorem one_new {w w2 : World} {b : Bool} {A : Option Addr} {n c : Nat} (hb : Below (w.alloc (.cells #[.bool b, .slice A n c] 38)).drew.heap.size (w.alloc (.cells #[.bool b, .slice A n c] 38)).drew w2) : Bx w2 w.heap.size b A n c := (Bx.new w b A n c).drew.below hb
theorem two_fst {w w2 : World} {o : Obj} {b : Bool} {A : Option Addr} {n c : Nat} (hb : Below ((w.alloc (.cells #[.bool b, .slice A n c] 38)).alloc o).drew.heap.size ((w.alloc (.cells #[.bool b, .slice A n c] 38)).alloc o).drew w2) : Bx w2 w.heap.size b A n c := ((Bx.new w b A n c).alloc o).drew.below hb
theorem two_snd {w w2 : World} {o : Obj} {b : Bool} {A : Option Addr} {n c : Nat} (hb : Below ((w.alloc o).alloc (.cells #[.bool b, .slice A n c] 38)).drew.heap.size ((w.alloc o).alloc (.cells #[.bool b, .slice A n c] 38)).drew w2) : Bx w2 (w.heap.size + 1) b A n c := by
  have h := (Bx.new (w.alloc o) b A n c).drew.below hb
  rw [World.size_alloc] at h
  exact h

section
variable {w w2 : World} {K : Nat} {s s2 b1 b2 : Bool} {A A2 A1 B2 : Option Addr} {n c n2 c2 n1 c1 m2 d2 : Nat} {p a : Int}
theorem pw_fin0 (q : Qs w w2 [(w.heap.size + 1 + 1, false, none, 0, 0)] (.agg #[.bool s2, .slice A2 n2 c2]) (.agg #[.bool s, .slice A n c]) p a) (hN : w.heap.size + 1 + 1 < K) (hl : K ≤ w2.heap.size) :
    PwS w ((w2.alloc (.cells #[.bool s2, .slice A2 n2 c2] 38)).alloc (.cells #[.bool s, .slice A n c] 38)) w2.heap.size (w2.heap.size + 1) p a :=
  ((q.new _ _ _ _ _ (by simp)).new _ _ _ _ _ (by simp)).o89 (by omega) (by omega) (by omega)
theorem pw_fin1 (q : Qs w w2 [(w.heap.size + 1 + 1, false, none, 0, 0)] (.agg #[.bool s2, .slice A2 n2 c2]) (.agg #[.bool s, .slice A n c]) p a) (hN : w.heap.size + 1 + 1 < K) (hl : K ≤ w2.heap.size) :
    PwS w ((w2.alloc (.cells #[.bool s, .slice A n c] 38)).alloc (.cells #[.bool s2, .slice A2 n2 c2] 38)) (w2.heap.size + 1) w2.heap.size p a :=
  ((q.new _ _ _ _ _ (by simp)).new _ _ _ _ _ (by simp)).o98 (by omega) (by omega) (by omega)
theorem pw_fin2 (q : Qs w w2 [(K, b1, A1, n1, c1), (w.heap.size + 1 + 1, false, none, 0, 0)] (.agg #[.bool s2, .slice A2 n2 c2]) (.agg #[.bool s, .slice A n c]) p a) (hN : w.heap.size + 1 + 1 < K) (hl : K + 1 ≤ w2.heap.size) :
    PwS w (((w2.setCell ⟨K, 0, none⟩ (.bool s2)).setCell ⟨K, 1, none⟩ (.slice A2 n2 c2)).alloc (.cells #[.bool s, .slice A n c] 38)) K w2.heap.size p a :=
  ((q.st0 (one_ne (by omega)) (by omega) _ _ _ _).new _ _ _ _ _ (by simp)).o89 (by omega) (by omega) (by omega)
theorem pw_fin3 (q : Qs w w2 [(K, b1, A1, n1, c1), (w.heap.size + 1 + 1, false, none, 0, 0)] (.agg #[.bool s2, .slice A2 n2 c2]) (.agg #[.bool s, .slice A n c]) p a) (hN : w.heap.size + 1 + 1 < K) (hl : K + 1 ≤ w2.heap.size) :
    PwS w (((w2.setCell ⟨K, 0, none⟩ (.bool s)).setCell ⟨K, 1, none⟩ (.slice A n c)).alloc (.cells #[.bool s2, .slice A2 n2 c2] 38)) w2.heap.size K p a :=
  ((q.st0 (one_ne (by omega)) (by omega) _ _ _ _).new _ _ _ _ _ (by simp)).o98 (by omega) (by omega) (by omega)
theorem pw_fin4 (q : Qs w w2 [(K, s, A, n, c), (w.heap.size + 1 + 1, false, none, 0, 0)] (.agg #[.bool s2, .slice A2 n2 c2]) (.agg #[.bool s, .slice A n c]) p a) (hN : w.heap.size + 1 + 1 < K) (hl : K + 1 ≤ w2.heap.size) :
    PwS w (w2.alloc (.cells #[.bool s2, .slice A2 n2 c2] 38)) w2.heap.size K p a :=
  (q.new _ _ _ _ _ (by simp)).o98 (by omega) (by omega) (by omega)
theorem pw_fin5 (q : Qs w w2 [(K + 1, b2, B2, m2, d2), (K, b1, A1, n1, c1), (w.heap.size + 1 + 1, false, none, 0, 0)] (.agg #[.bool s2, .slice A2 n2 c2]) (.agg #[.bool s, .slice A n c]) p a) (hN : w.heap.size + 1 + 1 < K) (hl : K + 1 + 1 ≤ w2.heap.size) :
    PwS w ((((w2.setCell ⟨K, 0, none⟩ (.bool s2)).setCell ⟨K, 1, none⟩ (.slice A2 n2 c2)).setCell ⟨(K + 1), 0, none⟩ (.bool s)).setCell ⟨(K + 1), 1, none⟩ (.slice A n c)) K (K + 1) p a :=
  ((q.st1 (by simp) (one_ne (by omega)) (by omega) _ _ _ _).st0 (two_ne (by omega) (by omega)) (by omega) _ _ _ _).o89 (by omega) (by omega) (by omega)
theorem pw_fin6 (q : Qs w w2 [(K + 1, b2, B2, m2, d2), (K, b1, A1, n1, c1), (w.heap.size + 1 + 1, false, none, 0, 0)] (.agg #[.bool s2, .slice A2 n2 c2]) (.agg #[.bool s, .slice A n c]) p a) (hN : w.heap.size + 1 + 1 < K) (hl : K + 1 + 1 ≤ w2.heap.size) :
    PwS w ((((w2.setCell ⟨(K + 1), 0, none⟩ (.bool s)).setCell ⟨(K + 1), 1, none⟩ (.slice A n c)).setCell ⟨K, 0, none⟩ (.bool s2)).setCell ⟨K, 1, none⟩ (.slice A2 n2 c2)) K (K + 1) p a :=
  ((q.st0 (two_ne (by omega) (by omega)) (by omega) _ _ _ _).st1 (by simp) (one_ne (by omega)) (by omega) _ _ _ _).o89 (by omega) (by omega) (by omega)
theorem pw_fin7 (q : Qs w w2 [(K + 1, s, A, n, c), (K, b1, A1, n1, c1), (w.heap.size + 1 + 1, false, none, 0, 0)] (.agg #[.bool s2, .slice A2 n2 c2]) (.agg #[.bool s, .slice A n c]) p a) (hN : w.heap.size + 1 + 1 < K) (hl : K + 1 + 1 ≤ w2.heap.size) :
    PwS w ((w2.setCell ⟨K, 0, none⟩ (.bool s2)).setCell ⟨K, 1, none⟩ (.slice A2 n2 c2)) K (K + 1) p a :=
  (q.st1 (by simp) (one_ne (by omega)) (by omega) _ _ _ _).o89 (by omega) (by omega) (by omega)
theorem pw_fin8 (q : Qs w w2 [(K + 1, b2, B2, m2, d2), (K, b1, A1, n1, c1), (w.heap.size + 1 + 1, false, none, 0, 0)] (.agg #[.bool s2, .slice A2 n2 c2]) (.agg #[.bool s, .slice A n c]) p a) (hN : w.heap.size + 1 + 1 < K) (hl : K + 1 + 1 ≤ w2.heap.size) :
    PwS w ((((w2.setCell ⟨(K + 1), 0, none⟩ (.bool s2)).setCell ⟨(K + 1), 1, none⟩ (.slice A2 n2 c2)).setCell ⟨K, 0, none⟩ (.bool s)).setCell ⟨K, 1, none⟩ (.slice A n c)) (K + 1) K p a :=
  ((q.st0 (two_ne (by omega) (by omega)) (by omega) _ _ _ _).st1 (by simp) (one_ne (by omega)) (by omega) _ _ _ _).o98 (by omega) (by omega) (by omega)
theorem pw_fin9 (q : Qs w w2 [(K + 1, b2, B2, m2, d2), (K, b1, A1, n1, c1), (w.heap.size + 1 + 1, false, none, 0, 0)] (.agg #[.bool s2, .slice A2 n2 c2]) (.agg #[.bool s, .slice A n c]) p a) (hN : w.heap.size + 1 + 1 < K) (hl : K + 1 + 1 ≤ w2.heap.size) :
    PwS w ((((w2.setCell ⟨K, 0, none⟩ (.bool s)).setCell ⟨K, 1, none⟩ (.slice A n c)).setCell ⟨(K + 1), 0, none⟩ (.bool s2)).setCell ⟨(K + 1), 1, none⟩ (.slice A2 n2 c2)) (K + 1) K p a :=
  ((q.st1 (by simp) (one_ne (by omega)) (by omega) _ _ _ _).st0 (two_ne (by omega) (by omega)) (by omega) _ _ _ _).o98 (by omega) (by omega) (by omega)
theorem pw_fin10 (q : Qs w w2 [(K + 1, b2, B2, m2, d2), (K, s, A, n, c), (w.heap.size + 1 + 1, false, none, 0, 0)] (.agg #[.bool s2, .slice A2 n2 c2]) (.agg #[.bool s, .slice A n c]) p a) (hN : w.heap.size + 1 + 1 < K) (hl : K + 1 + 1 ≤ w2.heap.size) :
    PwS w ((w2.setCell ⟨(K + 1), 0, none⟩ (.bool s2)).setCell ⟨(K + 1), 1, none⟩ (.slice A2 n2 c2)) (K + 1) K p a :=
  (q.st0 (two_ne (by omega) (by omega)) (by omega) _ _ _ _).o98 (by omega) (by omega) (by omega)
end


end LM
end Go.Proofs.YtpaefbojilnnnaaGreatDoor
