/- Walks of the document's answer for layer 2: Quo, Mod. -/
import Derived.Test.YtfckjapedjjhpaaDoorExactS
import Derived.Test.YtfckjapedjjhpaaDoorLimbSplit
namespace Go.Proofs.YtfckjapedjjhpaaDoor
open Go.RowKit
namespace LM
set_option linter.unusedVariables false

/-- what a division comes to -/
def QOut (x y q r e : Int) : Prop := (y = 0 ∧ e = 12 ∧ q = 0 ∧ r = 0) ∨ (y ≠ 0 ∧ e = 0 ∧ q = quoI x y ∧ r = remI x y)
def MOut (x y m e : Int) : Prop := (y = 0 ∧ e = 12 ∧ m = 0) ∨ (y ≠ 0 ∧ e = 0 ∧ m = modI x y)
theorem QOut.same {x y a b c d e f : Int} (h : QOut x y a b e) (k : QOut x y c d f) : a = c ∧ b = d ∧ e = f := by
  rcases h with ⟨h1, rfl, rfl, rfl⟩ | ⟨h1, rfl, rfl, rfl⟩ <;> rcases k with ⟨k1, rfl, rfl, rfl⟩ | ⟨k1, rfl, rfl, rfl⟩
  · exact ⟨rfl, rfl, rfl⟩
  · exact absurd h1 k1
  · exact absurd k1 h1
  · exact ⟨rfl, rfl, rfl⟩
theorem MOut.same {x y a b e f : Int} (h : MOut x y a e) (k : MOut x y b f) : a = b ∧ e = f := by
  rcases h with ⟨h1, rfl, rfl⟩ | ⟨h1, rfl, rfl⟩ <;> rcases k with ⟨k1, rfl, rfl⟩ | ⟨k1, rfl, rfl⟩
  · exact ⟨rfl, rfl⟩
  · exact absurd h1 k1
  · exact absurd k1 h1
  · exact ⟨rfl, rfl⟩
theorem QOut.fit {x y q r e : Int} (h : QOut x y q r e) (hx : ¬ BigI x) : ¬ BigI q ∧ ¬ BigI r := by
  rcases h with ⟨_, _, rfl, rfl⟩ | ⟨_, _, rfl, rfl⟩
  · exact ⟨bigI_zero, bigI_zero⟩
  · exact ⟨quo_not_big hx, rem_not_big hx⟩
theorem MOut.fit {x y m e : Int} (h : MOut x y m e) (hy : ¬ BigI y) : ¬ BigI m := by
  rcases h with ⟨_, _, rfl⟩ | ⟨h, _, rfl⟩
  · exact bigI_zero
  · exact fun hb => hy (hb.mono (Nat.le_of_lt (mod_lt_abs x y h)))
theorem RetQ.out {w w' : World} {x y : Int} {e : Ending} (h : RetQ w x y e w') : ∃ s A n c s' A' n' c' er q r, e = .returned (.tuple #[.agg #[.bool s, .slice A n c], .agg #[.bool s', .slice A' n' c'], .int .i64 er]) ∧
    IntV w' (.agg #[.bool s, .slice A n c]) q ∧ IntV w' (.agg #[.bool s', .slice A' n' c']) r ∧ QOut x y q r er ∧ Below w.heap.size w w' := by
  obtain ⟨s, A, n, c, s', A', n', c', er, rfl, ⟨h1, h2, h3, h4⟩ | ⟨h1, h2, h3, h4⟩, hb⟩ := h
  · exact ⟨s, A, n, c, s', A', n', c', er, 0, 0, rfl, h3, h4, .inl ⟨h1, h2, rfl, rfl⟩, hb⟩
  · exact ⟨s, A, n, c, s', A', n', c', er, _, _, rfl, h3, h4, .inr ⟨h1, h2, rfl, rfl⟩, hb⟩
theorem RetM.out {w w' : World} {x y : Int} {e : Ending} (h : RetM w x y e w') : ∃ s A n c er m, e = .returned (.tuple #[.agg #[.bool s, .slice A n c], .int .i64 er]) ∧ IntV w' (.agg #[.bool s, .slice A n c]) m ∧ MOut x y m er ∧ Below w.heap.size w w' := by
  obtain ⟨s, A, n, c, er, rfl, ⟨h1, h2, h3⟩ | ⟨h1, h2, h3⟩, hb⟩ := h
  · exact ⟨s, A, n, c, er, 0, rfl, h3, .inl ⟨h1, h2, rfl⟩, hb⟩
  · exact ⟨s, A, n, c, er, _, rfl, h3, .inr ⟨h1, h2, rfl⟩, hb⟩
/-- the document's division -/
def RetQR (w : World) (x y : Int) (e : Ending) (w' : World) : Prop := ∃ s A n c s' A' n' c' er q r, e = .returned (.tuple #[.agg #[.bool s, .slice A n c], .agg #[.bool s', .slice A' n' c'], .int .i64 er]) ∧
    IntR w' (.agg #[.bool s, .slice A n c]) q ∧ IntR w' (.agg #[.bool s', .slice A' n' c']) r ∧ QOut x y q r er ∧ Below w.heap.size w w'
def RetMR (w : World) (x y : Int) (e : Ending) (w' : World) : Prop := ∃ s A n c er m, e = .returned (.tuple #[.agg #[.bool s, .slice A n c], .int .i64 er]) ∧ IntR w' (.agg #[.bool s, .slice A n c]) m ∧ MOut x y m er ∧ Below w.heap.size w w'

set_option maxRecDepth 100000 in
set_option maxHeartbeats 2000000 in
theorem rquo_nil (s t : Bool) (A B : Option Addr) (ca cb : Nat) (xs ys : List Nat) (w : World) (ha : Rd w A xs) (hb : Rd w B ys) (hx : Can xs) (hy : Can ys) (hxl : xs.length ≤ 64) (hyl : ys.length ≤ 64) (x y : Int) (hs : s = decide (x < 0)) (ht : t = decide (y < 0)) (hxv : val xs = x.natAbs) (hyv : val ys = y.natAbs) (h0 : ys.length = 0) :
    Calls Tryd.prog 34 #[.agg #[.bool s, .slice A xs.length ca], .agg #[.bool t, .slice B ys.length cb]] w (RetQR w x y) := by
  have hz : ((ys.length : Int) == 0) = true := by simp; exact List.eq_nil_of_length_eq_zero h0
  obtain ⟨hb0, -, -, -, -⟩ := new4 w s t A B xs.length ca ys.length cb
  have HB0 := Lib.hid hb0
  have HY0 := Lib.hid (show y = 0 by have := (can_zero hy).1 h0; omega)
  clear hb0 ha hb hx hy hs ht hxv hyv h0
  go_enter Tryd.func34, Tryd.ntmps34
  go_wp2
  refine bodyPost_ret (v := .tuple #[.agg #[.bool false, .slice none 0 0], .agg #[.bool false, .slice none 0 0], .int .i64 12]) (by simp [results, Tryd.results34, go_sem]) rfl ?_
  exact ⟨_, _, _, _, _, _, _, _, _, 0, 0, rfl, intR_nil _, intR_nil _, .inl ⟨HY0.out, rfl, rfl, rfl⟩, HB0.out⟩

set_option maxRecDepth 100000 in
set_option maxHeartbeats 2000000 in
theorem rquo_some (s t : Bool) (A B : Option Addr) (ca cb : Nat) (xs ys : List Nat) (w : World) (ha : Rd w A xs) (hb : Rd w B ys) (hx : Can xs) (hy : Can ys) (hxl : xs.length ≤ 64) (hyl : ys.length ≤ 64) (x y : Int) (hs : s = decide (x < 0)) (ht : t = decide (y < 0)) (hxv : val xs = x.natAbs) (hyv : val ys = y.natAbs) (h0 : 0 < ys.length) :
    Calls Tryd.prog 34 #[.agg #[.bool s, .slice A xs.length ca], .agg #[.bool t, .slice B ys.length cb]] w (RetQR w x y) := by
  have hz : ((ys.length : Int) == 0) = false := by simp; intro h; rw [h] at h0; simp at h0
  obtain ⟨hb0, x0, y0, z0, v0⟩ := new4 w s t A B xs.length ca ys.length cb
  have HB0 := Lib.hid hb0
  have X0 := Lib.hid x0
  have Y0 := Lib.hid y0
  have Z0 := Lib.hid z0
  have V0 := Lib.hid v0
  have H1 := Lib.hid (rsplit_any A B ca cb xs ys _ (ha.below hb0) (hb.below hb0) hx.1 hy.1 (by omega) (by omega) ((can_pos hy).1 h0))
  have LX := Lib.hid (Nat.lt_of_lt_of_le (val_len_lt hx.1 hxl) (Nat.pow_le_pow_right (by decide) (show 64 ≤ 200 by decide)))
  have HY0 := Lib.hid (show y ≠ 0 by have := (can_pos hy).1 h0; omega)
  have HS := Lib.hid hs
  have HT := Lib.hid ht
  have HXV := Lib.hid hxv
  have HYV := Lib.hid hyv
  clear hb0 x0 y0 z0 v0 ha hb hx hy hs ht hxv hyv h0
  go_enter Tryd.func34, Tryd.ntmps34
  go_wp2_with fail
  refine H1.out.mono ?_
  rintro e w1 ⟨⟨q, r, rfl, ⟨A1, c1, r1, rfl, -, a3, a4, a5⟩, ⟨A2, c2, r2, rfl, -, b3, b4, b5⟩⟩, hb1⟩
  have X1 := Lib.hid (X0.out.below hb1).drew
  have Y1 := Lib.hid (Y0.out.below hb1).drew
  have Z1 := Lib.hid (Z0.out.below hb1).drew
  have V1 := Lib.hid (V0.out.below hb1).drew
  have HB1 := Lib.hid (HB0.out.trans (hb1.mono HB0.out.size)).drew
  have l1 := numr_len a4 (by rw [a5]; exact Nat.lt_of_le_of_lt (Nat.div_le_self _ _) LX.out)
  have l2 := numr_len b4 (by rw [b5]; exact Nat.lt_of_le_of_lt (Nat.mod_le _ _) LX.out)
  have S1 := Lib.hid (rmade_num (!(s == t)) A1 c1 r1 w1.drew l1 (a3.drew) a4)
  have R3 := Lib.hid b3.drew
  have R4 := Lib.hid b4
  have A5 := Lib.hid a5
  have B5 := Lib.hid b5
  clear hb1 a3 a4 b3 b4 a5 b5
  go_wp2
  go_region_held3 (fun W => W.cell? ⟨w.heap.size, 0, none⟩ = some (.bool s) ∧ W.cell? ⟨w.heap.size + 1, 0, none⟩ = some (.bool t))
    ((refine ⟨Bx.c0 (A := A) (n := xs.length) (c := ca) ?_, Bx.c0 (A := B) (n := ys.length) (c := cb) ?_⟩ <;> (repeat' (first | (with_reducible exact Hid.out (by assumption)) | refine Bx.set ?_ _ (by simp <;> omega)))))
    (first
      | (go_at_call 45; (with_reducible refine S1.out.mono ?_); rintro e w2 ⟨s3, A3, n3, c3, rfl, hv, hb2⟩; have X2 := Lib.hid (X1.out.below hb2); have Y2 := Lib.hid (Y1.out.below hb2); have Z2 := Lib.hid (Z1.out.below hb2); have V2 := Lib.hid (V1.out.below hb2); have HB2 := Lib.hid (HB1.out.trans (hb2.mono HB1.out.size)); have S2 := Lib.hid (rmade_num s A2 c2 r2 w2 l2 (R3.out.below hb2) R4.out); have HV2 := Lib.hid hv; clear hv hb2)
      | (go_at_call 45; (with_reducible refine S2.out.mono ?_); rintro e w3 ⟨s4, A4, n4, c4, rfl, hv, hb3⟩; have X3 := Lib.hid (X2.out.below hb3); have Y3 := Lib.hid (Y2.out.below hb3); have Z3 := Lib.hid (Z2.out.below hb3); have V3 := Lib.hid (V2.out.below hb3); have HB3 := Lib.hid (HB2.out.trans (hb3.mono HB2.out.size)); have HV3 := Lib.hid (HV2.out.keep hb3); have HR3 := Lib.hid hv; obtain ⟨q0, q1, z0, z1, zl⟩ := Z3.out.facts; obtain ⟨u0, u1, v0, v1, vl⟩ := V3.out.facts; clear hv hb3))
  all_goals
    first
    | (obtain ⟨W4, hW4, Z4, hb4, -, hv4, hx4, -⟩ := stored_world Z3.out HB3.out (by omega) s3 A3 n3 c3
       rw [hW4]
       obtain ⟨W5, hW5, V5, hb5, -, hv5, hx5, -⟩ := stored_world (hx4 _ _ _ _ _ (by omega) V3.out) hb4 (by omega) s4 A4 n4 c4
       rw [hW5]
       have Z5 := hx5 _ _ _ _ _ (by omega) Z4)
    | (obtain ⟨W4, hW4, V4, hb4, -, hv4, hx4, -⟩ := stored_world V3.out HB3.out (by omega) s4 A4 n4 c4
       rw [hW4]
       obtain ⟨W5, hW5, Z5, hb5, -, hv5, hx5, -⟩ := stored_world (hx4 _ _ _ _ _ (by omega) Z3.out) hb4 (by omega) s3 A3 n3 c3
       rw [hW5]
       have V5 := hx5 _ _ _ _ _ (by omega) V4)
    have HQ5 := Lib.hid (hv5 _ _ (hv4 _ _ HV3.out))
    have HR5 := Lib.hid (hv5 _ _ (hv4 _ _ HR3.out))
    obtain ⟨d0, d1, -, -, -⟩ := Z5.facts
    obtain ⟨f0, f1, -, -, -⟩ := V5.facts
    have HB5 := Lib.hid hb5
    clear hW4 hW5 hx4 hx5 hv4 hv5 hb4 hb5 Z5 V5 q0 q1 z0 z1 zl u0 u1 v0 v1 vl
    go_wp2
    refine bodyPost_ret (v := .tuple #[.agg #[.bool s3, .slice A3 n3 c3], .agg #[.bool s4, .slice A4 n4 c4], .int .i64 0]) (by simp [results, Tryd.results34, go_sem, d0, d1, f0, f1]) rfl ?_
    refine ⟨_, _, _, _, _, _, _, _, _, _, _, rfl, HQ5.out, HR5.out, .inr ⟨HY0.out, rfl, ?_, ?_⟩, HB5.out⟩
    · rw [A5.out, HXV.out, HYV.out, HS.out, HT.out]; rfl
    · rw [B5.out, HXV.out, HYV.out, HS.out]; rfl
theorem rquo2_int {va vb : Value} {x y : Int} {w : World} (ha : IntR w va x) (hb : IntR w vb y) (hx : ¬ BigI x) (hy : ¬ BigI y) : Calls Tryd.prog 34 #[va, vb] w (RetQR w x y) := by
  obtain ⟨A, ca, xs, rfl, h3, h4, h5⟩ := ha
  obtain ⟨B, cb, ys, rfl, k3, k4, k5⟩ := hb
  have l1 : xs.length ≤ 64 := len_not_big h4 (by rw [h5]; exact hx)
  have l2 : ys.length ≤ 64 := len_not_big k4 (by rw [k5]; exact hy)
  rcases Nat.eq_zero_or_pos ys.length with h | h
  · exact rquo_nil _ _ A B ca cb xs ys w h3 k3 h4 k4 l1 l2 x y rfl rfl h5 k5 h
  · exact rquo_some _ _ A B ca cb xs ys w h3 k3 h4 k4 l1 l2 x y rfl rfl h5 k5 h

set_option maxRecDepth 100000 in
set_option maxHeartbeats 2000000 in
theorem rmod_any (s t : Bool) (A B : Option Addr) (n ca m cb : Nat) (w : World) (x y : Int) (ha : IntR w (.agg #[.bool s, .slice A n ca]) x) (hb : IntR w (.agg #[.bool t, .slice B m cb]) y) (hx : ¬ BigI x) (hy : ¬ BigI y) :
    Calls Tryd.prog 35 #[.agg #[.bool s, .slice A n ca], .agg #[.bool t, .slice B m cb]] w (RetMR w x y) := by
  obtain ⟨hb0, x0, y0, z0⟩ := new3 w s t A B n ca m cb
  have HB0 := Lib.hid hb0
  have X0 := Lib.hid x0
  have Y0 := Lib.hid y0
  have Z0 := Lib.hid z0
  have H1 := Lib.hid (rquo2_int (ha.keep hb0) (hb.keep hb0) hx hy)
  have HY := Lib.hid (hb.keep hb0)
  have HT := Lib.hid hb.parts.1
  have NX := Lib.hid hx
  have NY := Lib.hid hy
  clear hb0 x0 y0 z0 ha hb hx hy
  go_enter Tryd.func35, Tryd.ntmps35
  go_wp2_with fail
  refine H1.out.mono ?_
  rintro e w1 ⟨s1, A1, n1, c1, s2, A2, n2, c2, er, zq, zr, rfl, -, hzr, hcase, hb1⟩
  have X1 := Lib.hid (X0.out.below hb1)
  have Y1 := Lib.hid (Y0.out.below hb1)
  have Z1 := Lib.hid (Z0.out.below hb1)
  have HY1 := Lib.hid (HY.out.keep hb1)
  have HB1 := Lib.hid (HB0.out.trans (hb1.mono HB0.out.size))
  obtain ⟨p0, p1, -, -, pl⟩ := X1.out.facts
  obtain ⟨t0, t1, -, -, tl⟩ := Y1.out.facts
  obtain ⟨q0, q1, z0, z1, zl⟩ := Z1.out.facts
  obtain ⟨hs2, hn2, hcm, -⟩ := hzr.parts
  have hn2m : n2 ≤ 130 := hcm (fit_of (QOut.fit hcase NX.out).2)
  have HZ := Lib.hid hzr
  have HS2 := Lib.hid hs2
  have HN2 := Lib.hid hn2
  clear hb1 hzr hs2 hn2 hcm
  rcases hcase with ⟨h1, rfl, _, h3⟩ | ⟨h1, rfl, _, h3⟩
  · have H1y := Lib.hid h1
    have H3 := Lib.hid h3
    clear h1 h3
    go_wp2
    obtain ⟨W3, hW3, Z, hb3, -, hv3, -, -⟩ := stored_world Z1.out HB1.out (by omega) s2 A2 n2 c2
    rw [hW3]
    have HV3 := Lib.hid ((hv3 _ _ HZ.out).alloc (.cells #[.bool s1, .slice A1 n1 c1] 24))
    have hb4 : Below w.heap.size w (W3.alloc (.cells #[.bool s1, .slice A1 n1 c1] 24)) := hb3.alloc hb3.size _
    have HV4 := Lib.hid (HV3.out.alloc (.cells #[.bool s2, .slice A2 n2 c2] 24))
    have HB4 := Lib.hid (hb4.alloc hb4.size (.cells #[.bool s2, .slice A2 n2 c2] 24))
    obtain ⟨c0, c1, -, -, cl⟩ := Z.facts
    clear q0 q1 z0 z1 zl p0 p1 pl t0 t1 tl hW3 hv3 hb3 hb4
    refine bodyPost_ret (v := .tuple #[.agg #[.bool s2, .slice A2 n2 c2], .int .i64 12]) (by simp [results, Tryd.results35, go_sem, c0, c1, cl, Nat.lt_succ_of_lt cl]) rfl ?_
    exact ⟨_, _, _, _, _, _, rfl, HV4.out, .inl ⟨H1y.out, rfl, H3.out⟩, HB4.out⟩
  · have H1y := Lib.hid h1
    have H3 := Lib.hid h3
    clear h1 h3
    by_cases h0 : n2 = 0
    · have HZR := Lib.hid (HN2.out.1 h0)
      subst h0
      have hd : decide (0 < 0) = false := rfl
      go_wp2
      obtain ⟨W3, hW3, Z, hb3, -, hv3, -, -⟩ := stored_world Z1.out HB1.out (by omega) s2 A2 0 c2
      rw [hW3]
      have HV3 := Lib.hid ((hv3 _ _ HZ.out).alloc (.cells #[.bool s1, .slice A1 n1 c1] 24))
      have hb4 : Below w.heap.size w (W3.alloc (.cells #[.bool s1, .slice A1 n1 c1] 24)) := hb3.alloc hb3.size _
      have HV4 := Lib.hid (HV3.out.alloc (.cells #[.bool s2, .slice A2 0 c2] 24))
      have HB4 := Lib.hid (hb4.alloc hb4.size (.cells #[.bool s2, .slice A2 0 c2] 24))
      obtain ⟨c0, c1, -, -, cl⟩ := Z.facts
      clear q0 q1 z0 z1 zl p0 p1 pl t0 t1 tl hW3 hv3 hb3 hb4
      refine bodyPost_ret (v := .tuple #[.agg #[.bool s2, .slice A2 0 c2], .int .i64 0]) (by simp [results, Tryd.results35, go_sem, c0, c1, cl, Nat.lt_succ_of_lt cl]) rfl ?_
      exact ⟨_, _, _, _, _, _, rfl, HV4.out, .inr ⟨H1y.out, rfl, by unfold modI; rw [if_neg (fun h => h.1 (by rw [← H3.out]; exact HZR.out))]; exact H3.out⟩, HB4.out⟩
    · have hd : decide (0 < n2) = true := decide_eq_true (by omega)
      have HZ0 : Hid (zr ≠ 0) := Lib.hid (fun h => h0 (HN2.out.2 h))
      clear h0
      by_cases hst : s2 = t
      · have HST := Lib.hid hst
        have hbt : (s2 == t) = true := by simp [hst]
        clear hst
        go_wp2
        obtain ⟨W3, hW3, Z, hb3, -, hv3, -, -⟩ := stored_world Z1.out HB1.out (by omega) s2 A2 n2 c2
        rw [hW3]
        have HV3 := Lib.hid ((hv3 _ _ HZ.out).alloc (.cells #[.bool s1, .slice A1 n1 c1] 24))
        have hb4 : Below w.heap.size w (W3.alloc (.cells #[.bool s1, .slice A1 n1 c1] 24)) := hb3.alloc hb3.size _
        have HV4 := Lib.hid (HV3.out.alloc (.cells #[.bool s2, .slice A2 n2 c2] 24))
        have HB4 := Lib.hid (hb4.alloc hb4.size (.cells #[.bool s2, .slice A2 n2 c2] 24))
        obtain ⟨c0, c1, -, -, cl⟩ := Z.facts
        clear q0 q1 z0 z1 zl p0 p1 pl t0 t1 tl hW3 hv3 hb3 hb4
        refine bodyPost_ret (v := .tuple #[.agg #[.bool s2, .slice A2 n2 c2], .int .i64 0]) (by simp [results, Tryd.results35, go_sem, c0, c1, cl, Nat.lt_succ_of_lt cl]) rfl ?_
        exact ⟨_, _, _, _, _, _, rfl, HV4.out, .inr ⟨H1y.out, rfl, by unfold modI; rw [if_neg (fun h => h.2 (by rw [← H3.out, ← HS2.out, ← HT.out]; exact HST.out))]; exact H3.out⟩, HB4.out⟩
      · have HST := Lib.hid hst
        have hbt : (s2 == t) = false := by simp [hst]
        clear hst
        have nz : FitI zr := by rw [H3.out]; exact fit_of (rem_not_big NX.out)
        have HW : Below w.heap.size w ((w1.alloc (.cells #[.bool s1, .slice A1 n1 c1] 24)).alloc (.cells #[.bool s2, .slice A2 n2 c2] 24)) := (HB1.out.alloc HB1.out.size _).alloc (by have := HB1.out.size; simp; omega) _
        have HBW := Lib.hid HW
        have H2 := Lib.hid (rplus_int ((HZ.out.alloc (.cells #[.bool s1, .slice A1 n1 c1] 24)).alloc (.cells #[.bool s2, .slice A2 n2 c2] 24)) ((HY1.out.alloc (.cells #[.bool s1, .slice A1 n1 c1] 24)).alloc (.cells #[.bool s2, .slice A2 n2 c2] 24)) nz (fit_of NY.out))
        have ZW := Lib.hid ((Z1.out.alloc (.cells #[.bool s1, .slice A1 n1 c1] 24)).alloc (.cells #[.bool s2, .slice A2 n2 c2] 24))
        have rw0 := Bx.new (w1.alloc (.cells #[.bool s1, .slice A1 n1 c1] 24)) s2 A2 n2 c2
        rw [World.size_alloc] at rw0
        have RW := Lib.hid rw0
        clear HW nz rw0
        go_wp2_with fail
        refine H2.out.mono ?_
        rintro e w2 ⟨s5, A5, n5, c5, rfl, hv, hb2⟩
        have Z2 := Lib.hid (ZW.out.below hb2)
        have R2 := Lib.hid (RW.out.below hb2)
        have HB2 := Lib.hid (HBW.out.trans (hb2.mono HBW.out.size))
        have HV := Lib.hid hv
        have HG : Hid (w.heap.size ≤ w1.heap.size + 1) := Lib.hid (by omega)
        have HNE : Hid (w.heap.size + 1 + 1 ≠ w1.heap.size + 1) := Lib.hid (by omega)
        have hgt : w.heap.size + 1 + 1 < w1.heap.size := zl
        clear hb2 hv q0 q1 z0 z1 zl p0 p1 pl t0 t1 tl
        obtain ⟨q0, q1, z0, z1, zl⟩ := Z2.out.facts
        obtain ⟨u0, u1, v0, v1, vl⟩ := R2.out.facts
        go_wp2
        obtain ⟨W3, hW3, Z3, hb3, -, hv3, hx3, -⟩ := stored_world R2.out HB2.out HG.out s5 A5 n5 c5
        rw [hW3]
        obtain ⟨W4, hW4, Z4, hb4, -, hv4, -, -⟩ := stored_world (hx3 _ _ _ _ _ HNE.out Z2.out) hb3 (by omega) s5 A5 n5 c5
        rw [hW4]
        have HV4 := Lib.hid (hv4 _ _ (hv3 _ _ HV.out))
        obtain ⟨c0, c1, -, -, -⟩ := Z4.facts
        clear q0 q1 z0 z1 zl u0 u1 v0 v1 vl hW3 hW4 hv3 hv4 hx3
        refine bodyPost_ret (v := .tuple #[.agg #[.bool s5, .slice A5 n5 c5], .int .i64 0]) (by simp [results, Tryd.results35, go_sem, c0, c1]) rfl ?_
        refine ⟨_, _, _, _, _, _, rfl, HV4.out, .inr ⟨H1y.out, rfl, ?_⟩, hb4⟩
        unfold modI
        rw [if_pos ⟨by rw [← H3.out]; exact HZ0.out, fun h => HST.out (by rw [← H3.out] at h; rw [HS2.out, HT.out]; exact h)⟩, ← H3.out]
theorem rmod2_int {va vb : Value} {x y : Int} {w : World} (ha : IntR w va x) (hb : IntR w vb y) (hx : ¬ BigI x) (hy : ¬ BigI y) : Calls Tryd.prog 35 #[va, vb] w (RetMR w x y) := by
  obtain ⟨A, n, ca, rfl⟩ := ha.bx
  obtain ⟨B, m, cb, rfl⟩ := hb.bx
  exact rmod_any _ _ A B n ca m cb w x y ha hb hx hy

end LM
end Go.Proofs.YtfckjapedjjhpaaDoor
