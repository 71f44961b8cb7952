/- Walks of package exact: Cmp, Same, Neg of whole numbers. -/
import Derived.Test.YtpaefbojilnnnaaGreatDoorJ14
import Derived.Test.YtpaefbojilnnnaaGreatDoorJ09
import Derived.Handy
import Derived.Test.YtpaefbojilnnnaaGreatDoorJ13
import Derived.Deep.RegionHeld3
namespace Go.Proofs.YtpaefbojilnnnaaGreatDoor
open Go.RowKit
namespace LM

set_option maxHeartbeats 400000 in
theorem signed_any (neg : Bool) (A : Option Addr) (n c : Nat) (w : World) (hn : n ≤ 9223372036854775807) :
    Calls Tryz.prog 137 #[.bool neg, .slice A n c] w fun e w' => e = .returned (.agg #[.bool (neg && decide (0 < n)), .slice A n c]) ∧ Below w.heap.size w w' := by
  cases neg with
  | false =>
    go_enter Tryz.func137, Tryz.ntmps137
    go_wp2
    go_returns
    exact ⟨by simp, (Below.refl _ _).alloc (Nat.le_refl _) _⟩
  | true =>
    rcases Nat.eq_zero_or_pos n with rfl | h
    · go_enter Tryz.func137, Tryz.ntmps137
      go_wp2
      go_returns
      exact ⟨by simp, (Below.refl _ _).alloc (Nat.le_refl _) _⟩
    · have hd : decide (0 < n) = true := decide_eq_true h
      go_enter Tryz.func137, Tryz.ntmps137
      go_wp2
      go_returns
      exact ⟨by simp [h], (Below.refl _ _).alloc (Nat.le_refl _) _⟩


/-- a call that answers a whole number in new memory -/
def RetI (w : World) (z : Int) (e : Ending) (w' : World) : Prop := ∃ A n c, e = .returned (.agg #[.bool (decide (z < 0)), .slice A n c]) ∧ IntV w' (.agg #[.bool (decide (z < 0)), .slice A n c]) z ∧ Below w.heap.size w w'

theorem signed_num (neg : Bool) (A : Option Addr) (c : Nat) (r : List Nat) (w : World) (h1 : r.length ≤ c) (h2 : c ≤ 9223372036854775807) (h3 : Rd w A r) (h4 : Can r) :
    Calls Tryz.prog 137 #[.bool neg, .slice A r.length c] w (RetI w (sg neg (val r))) :=
  (signed_any neg A r.length c w (by omega)).mono fun e w' ⟨he, hb⟩ => by
    have hs : (neg && decide (0 < r.length)) = decide (sg neg (val r) < 0) := by rw [sg_neg, decide_eq_decide.2 (can_pos h4)]
    rw [hs] at he
    exact ⟨A, _, c, he, ⟨A, c, r, rfl, h1, h2, h3.below hb, h4, (sg_abs _ _).symm⟩, hb⟩

set_option maxRecDepth 100000 in
set_option maxHeartbeats 1000000 in
theorem eneg_any (s : Bool) (A : Option Addr) (c : Nat) (r : List Nat) (w : World) (h1 : r.length ≤ c) (h2 : c ≤ 9223372036854775807) (h3 : Rd w A r) (h4 : Can r) (h5 : r.length ≤ 1000) :
    Calls Tryz.prog 93 #[.agg #[.bool s, .slice A r.length c]] w (RetI w (sg (!s) (val r))) := by
  obtain ⟨hb0, x0, y0⟩ := new2 w s A r.length c
  have HB0 := Lib.hid hb0.drew
  have X0 := Lib.hid x0.drew
  have Y0 := Lib.hid y0.drew
  have H1 := Lib.hid (trimUp_any A c r _ (h3.below hb0.drew) h4.1 h1 h2 h5)
  clear hb0 x0 y0 h3
  go_enter Tryz.func93, Tryz.ntmps93
  go_wp2
  go_region_held3 (fun W => W.cell? ⟨w.heap.size, 0, none⟩ = some (.bool s) ∧ W.cell? ⟨w.heap.size, 1, none⟩ = some (.slice A r.length c)) (first | exact ⟨X0.out.facts.1, X0.out.facts.2.1⟩ | exact ⟨‹Hid (Bx _ w.heap.size s A r.length c)›.out.facts.1, ‹Hid (Bx _ w.heap.size s A r.length c)›.out.facts.2.1⟩ | exact ⟨((X2.out.set _ (by simp)).set _ (by simp)).facts.1, ((X2.out.set _ (by simp)).set _ (by simp)).facts.2.1⟩)
    (first
      | (go_at_call 81; refine H1.out.mono ?_; rintro e w1 ⟨q, rfl, hB, hq, hqv, hql, hb1⟩; have X1 := Lib.hid (X0.out.below hb1); have Y1 := Lib.hid (Y0.out.below hb1); have HB1 := Lib.hid (HB0.out.trans (hb1.mono HB0.out.size)); have hq1 : Rd w1 (some ⟨_, 0, none⟩) q := Rd.of_blk (pre := []) (post := []) (by simpa using hB); have HS := Lib.hid (signed_num (!s) _ q.length q w1 (Nat.le_refl _) (by omega) hq1 hq); rw [hqv] at HS; clear hB hq1 hq hb1 hqv)
      | (go_at_call 137; refine HS.out.mono ?_; rintro e w2 ⟨A2, n2, c2, rfl, hv, hb2⟩; have X2 := Lib.hid (X1.out.below hb2); have Y2 := Lib.hid (Y1.out.below hb2); obtain ⟨q0, q1, z0, z1, zl⟩ := (Y1.out.below hb2).facts; have HB2 := Lib.hid (HB1.out.trans (hb2.mono HB1.out.size)); have HV := Lib.hid hv; clear hv hb2))
  all_goals
    obtain ⟨W3, hW3, Z, hb3, hv3, -, -, -⟩ := stored_world Y2.out HB2.out (by omega) (decide (sg (!s) (val r) < 0)) A2 n2 c2
    rw [hW3]
    have HV3 := Lib.hid (hv3 _ _ HV.out)
    obtain ⟨c0, c1, -, -, -⟩ := Z.facts
    clear q0 q1 z0 z1 zl hW3 hv3
    go_wp2
    refine bodyPost_ret (v := .agg #[.bool (decide (sg (!s) (val r) < 0)), .slice A2 n2 c2]) (by simp [results, Tryz.results93, go_sem, c0, c1]) rfl ?_
    exact ⟨_, _, _, rfl, HV3.out, hb3⟩

end LM
end Go.Proofs.YtpaefbojilnnnaaGreatDoor

namespace Go.Proofs.YtpaefbojilnnnaaGreatDoor
open Go.RowKit
namespace LM

/-- the order of two numbers with signs -/
def cmpS (a : Bool) (m : Nat) (b : Bool) (n : Nat) : Int := if a then (if b then cmpN n m else -1) else (if b then 1 else cmpN m n)

set_option maxRecDepth 100000 in
set_option maxHeartbeats 1000000 in
theorem ecmp_any (a b : Bool) (A B : Option Addr) (ca cb : Nat) (xs ys : List Nat) (w : World) (ha : Rd w A xs) (hb : Rd w B ys) (hx : Lm xs) (hy : Lm ys) (hca : xs.length ≤ ca) (hcb : ys.length ≤ cb) (hcam : ca ≤ 9223372036854775807) (hcbm : cb ≤ 9223372036854775807) (hxl : xs.length ≤ 1000000) (hyl : ys.length ≤ 1000000) :
    Calls Tryz.prog 78 #[.agg #[.bool a, .slice A xs.length ca], .agg #[.bool b, .slice B ys.length cb]] w fun e w' => e = .returned (.int .i64 (cmpS a (val xs) b (val ys))) ∧ Below w.heap.size w w' := by
  have h1 := fun W (k : Below w.heap.size w W) => cmp_any A B ca cb xs ys W (ha.below k) (hb.below k) hx hy hca hcb hcam hcbm hxl
  have h2 := fun W (k : Below w.heap.size w W) => cmp_any B A cb ca ys xs W (hb.below k) (ha.below k) hy hx hcb hca hcbm hcam hyl
  have H1 := Lib.hid h1
  have H2 := Lib.hid h2
  have bw : ∀ o1 o2 : Obj, Below w.heap.size w ((w.alloc o1).alloc o2) := fun o1 o2 => ((Below.refl _ w).alloc (Nat.le_refl _) _).alloc (by simp) _
  have BW := Lib.hid bw
  clear h1 h2 ha hb bw
  cases a <;> cases b
  · go_enter Tryz.func78, Tryz.ntmps78
    go_wp2_with fail
    refine (H1.out _ (BW.out _ _)).mono ?_
    rintro e w1 ⟨rfl, b1⟩
    go_wp2
    go_ret
    exact ⟨rfl, (BW.out _ _).trans (b1.mono (by simp; omega))⟩
  · go_enter Tryz.func78, Tryz.ntmps78
    go_wp2
    go_ret
    exact ⟨rfl, BW.out _ _⟩
  · go_enter Tryz.func78, Tryz.ntmps78
    go_wp2
    go_ret
    exact ⟨rfl, BW.out _ _⟩
  · go_enter Tryz.func78, Tryz.ntmps78
    go_wp2_with fail
    refine (H2.out _ (BW.out _ _)).mono ?_
    rintro e w1 ⟨rfl, b1⟩
    go_wp2
    go_ret
    exact ⟨rfl, (BW.out _ _).trans (b1.mono (by simp; omega))⟩


theorem cmpI_sg2 (s t : Bool) (m n : Nat) (hs : s = (s && decide (0 < m))) (ht : t = (t && decide (0 < n))) : cmpI (sg s m) (sg t n) = cmpS s m t n := by
  refine cmpI_sg s t m n (fun h => ?_) (fun h => ?_)
  · subst h; simp at hs; exact hs
  · subst h; simp at ht; exact ht
theorem ecmp_int {va vb : Value} {x y : Int} {w : World} (ha : IntV w va x) (hb : IntV w vb y) (hx : ¬ BigI x) (hy : ¬ BigI y) :
    Calls Tryz.prog 78 #[va, vb] w fun e w' => e = .returned (.int .i64 (cmpI x y)) ∧ Below w.heap.size w w' := by
  obtain ⟨A, ca, xs, rfl, h1, h2, h3, h4, h5⟩ := ha
  obtain ⟨B, cb, ys, rfl, k1, k2, k3, k4, k5⟩ := hb
  have l1 : xs.length ≤ 64 := len_not_big h4 (by rw [h5]; exact hx)
  have l2 : ys.length ≤ 64 := len_not_big k4 (by rw [k5]; exact hy)
  have h := ecmp_any (decide (x < 0)) (decide (y < 0)) A B ca cb xs ys w h3 k3 h4.1 k4.1 h1 k1 h2 k2 (by omega) (by omega)
  rw [h5, k5, ← cmpI_sg2 _ _ _ _ (by rw [← sg_neg, sg_of]) (by rw [← sg_neg, sg_of]), sg_of, sg_of] at h
  exact h
theorem eneg_int {va : Value} {x : Int} {w : World} (ha : IntV w va x) (hx : ¬ BigI x) : Calls Tryz.prog 93 #[va] w (RetI w (-x)) := by
  obtain ⟨A, ca, xs, rfl, h1, h2, h3, h4, h5⟩ := ha
  have l1 : xs.length ≤ 64 := len_not_big h4 (by rw [h5]; exact hx)
  have h := eneg_any (decide (x < 0)) A ca xs w h1 h2 h3 h4 (by omega)
  rw [← sg_flip, h5, sg_of] at h
  exact h
theorem cmpI_zero {x y : Int} : (cmpI x y == 0) = decide (x = y) := by
  unfold cmpI
  by_cases h : x < y
  · rw [if_pos h, decide_eq_false (by omega)]; rfl
  · rw [if_neg h]
    by_cases h2 : y < x
    · rw [if_pos h2, decide_eq_false (by omega)]; rfl
    · rw [if_neg h2, decide_eq_true (by omega)]; rfl
theorem cmpI_lt {x y : Int} (h : x < y) : cmpI x y = -1 := if_pos h
theorem cmpI_gt {x y : Int} (h : y < x) : cmpI x y = 1 := by unfold cmpI; rw [if_neg (by omega), if_pos h]
theorem cmpI_eq {x y : Int} (h : x = y) : cmpI x y = 0 := by unfold cmpI; rw [if_neg (by omega), if_neg (by omega)]
theorem IntV.bx {w : World} {v : Value} {z : Int} (h : IntV w v z) : ∃ A n c, v = .agg #[.bool (decide (z < 0)), .slice A n c] := by
  obtain ⟨A, n, c, e, _⟩ := h.open
  exact ⟨A, n, c, e⟩
theorem newp2 (w : World) (s t : Bool) (A B : Option Addr) (n c m d : Nat) :
    Below w.heap.size w ((w.alloc (.cells #[.bool s, .slice A n c] 38)).alloc (.cells #[.bool t, .slice B m d] 38)) ∧
    Bx ((w.alloc (.cells #[.bool s, .slice A n c] 38)).alloc (.cells #[.bool t, .slice B m d] 38)) w.heap.size s A n c ∧
    Bx ((w.alloc (.cells #[.bool s, .slice A n c] 38)).alloc (.cells #[.bool t, .slice B m d] 38)) (w.heap.size + 1) t B m d := by
  refine ⟨((Below.refl _ w).alloc (Nat.le_refl _) _).alloc (by simp) _, (Bx.new w s A n c).alloc _, ?_⟩
  have h := Bx.new (w.alloc (.cells #[.bool s, .slice A n c] 38)) t B m d
  rw [World.size_alloc] at h
  exact h

set_option maxRecDepth 100000 in
set_option maxHeartbeats 1000000 in
theorem esame_int {va vb : Value} {x y : Int} {w : World} (ha : IntV w va x) (hb : IntV w vb y) (hx : ¬ BigI x) (hy : ¬ BigI y) :
    Calls Tryz.prog 107 #[va, vb] w fun e w' => e = .returned (.bool (decide (x = y))) ∧ Below w.heap.size w w' := by
  obtain ⟨A, n, c, rfl⟩ := ha.bx
  obtain ⟨B, m, d, rfl⟩ := hb.bx
  generalize decide (x < 0) = s at *
  generalize decide (y < 0) = t at *
  obtain ⟨hb0, x0, y0⟩ := newp2 w s t A B n c m d
  have H1 := Lib.hid (ecmp_int (ha.keep hb0) (hb.keep hb0) hx hy)
  have HB := Lib.hid hb0
  have HZ := Lib.hid (@cmpI_zero x y)
  clear hb0 x0 y0 ha hb hx hy
  go_enter Tryz.func107, Tryz.ntmps107
  go_wp2_with fail
  refine H1.out.mono ?_
  rintro e w1 ⟨rfl, hb1⟩
  have HB1 := Lib.hid (HB.out.trans (hb1.mono HB.out.size))
  clear hb1
  go_wp2
  go_ret
  exact ⟨by rw [HZ.out]; rfl, HB1.out⟩

end LM
end Go.Proofs.YtpaefbojilnnnaaGreatDoor
