/- Walks of package exact: signed at a number; Neg. -/
import Derived.Test.YtfckjapedjjhpaaDoorExactMath
import Derived.Test.YtfckjapedjjhpaaDoorLimbA
import Derived.Handy
import Derived.Test.YtfckjapedjjhpaaDoorLimbO
import Derived.Deep.RegionHeld3
namespace Go.Proofs.YtfckjapedjjhpaaDoor
open Go.RowKit
namespace LM

set_option maxHeartbeats 400000 in
theorem signed_any (neg : Bool) (A : Option Addr) (n c : Nat) (w : World) (hn : n ≤ 9223372036854775807) :
    Calls Tryd.prog 40 #[.bool neg, .slice A n c] w fun e w' => e = .returned (.agg #[.bool (neg && decide (0 < n)), .slice A n c]) ∧ Below w.heap.size w w' := by
  cases neg with
  | false =>
    go_enter Tryd.func40, Tryd.ntmps40
    go_wp2
    go_returns
    exact ⟨by simp, (Below.refl _ _).alloc (Nat.le_refl _) _⟩
  | true =>
    rcases Nat.eq_zero_or_pos n with rfl | h
    · go_enter Tryd.func40, Tryd.ntmps40
      go_wp2
      go_returns
      exact ⟨by simp, (Below.refl _ _).alloc (Nat.le_refl _) _⟩
    · have hd : decide (0 < n) = true := decide_eq_true h
      go_enter Tryd.func40, Tryd.ntmps40
      go_wp2
      go_returns
      exact ⟨by simp [h], (Below.refl _ _).alloc (Nat.le_refl _) _⟩


/-- a call that answers a whole number in new memory -/
def RetI (w : World) (z : Int) (e : Ending) (w' : World) : Prop := ∃ A n c, e = .returned (.agg #[.bool (decide (z < 0)), .slice A n c]) ∧ IntV w' (.agg #[.bool (decide (z < 0)), .slice A n c]) z ∧ Below w.heap.size w w'

theorem signed_num (neg : Bool) (A : Option Addr) (c : Nat) (r : List Nat) (w : World) (h1 : r.length ≤ c) (h2 : c ≤ 9223372036854775807) (h3 : Rd w A r) (h4 : Can r) :
    Calls Tryd.prog 40 #[.bool neg, .slice A r.length c] w (RetI w (sg neg (val r))) :=
  (signed_any neg A r.length c w (by omega)).mono fun e w' ⟨he, hb⟩ => by
    have hs : (neg && decide (0 < r.length)) = decide (sg neg (val r) < 0) := by rw [sg_neg, decide_eq_decide.2 (can_pos h4)]
    rw [hs] at he
    exact ⟨A, _, c, he, ⟨A, c, r, rfl, h1, h2, h3.below hb, h4, (sg_abs _ _).symm⟩, hb⟩

set_option maxRecDepth 100000 in
set_option maxHeartbeats 1000000 in
theorem eneg_any (s : Bool) (A : Option Addr) (c : Nat) (r : List Nat) (w : World) (h1 : r.length ≤ c) (h2 : c ≤ 9223372036854775807) (h3 : Rd w A r) (h4 : Can r) (h5 : r.length ≤ 1000) :
    Calls Tryd.prog 30 #[.agg #[.bool s, .slice A r.length c]] w (RetI w (sg (!s) (val r))) := by
  obtain ⟨hb0, x0, y0⟩ := new2 w s A r.length c
  have HB0 := Lib.hid hb0.drew
  have X0 := Lib.hid x0.drew
  have Y0 := Lib.hid y0.drew
  have H1 := Lib.hid (trimUp_any A c r _ (h3.below hb0.drew) h4.1 h1 h2 h5)
  clear hb0 x0 y0 h3
  go_enter Tryd.func30, Tryd.ntmps30
  go_wp2
  go_region_held3 (fun W => W.cell? ⟨w.heap.size, 0, none⟩ = some (.bool s) ∧ W.cell? ⟨w.heap.size, 1, none⟩ = some (.slice A r.length c)) (first | exact ⟨X0.out.facts.1, X0.out.facts.2.1⟩ | exact ⟨‹Hid (Bx _ w.heap.size s A r.length c)›.out.facts.1, ‹Hid (Bx _ w.heap.size s A r.length c)›.out.facts.2.1⟩ | exact ⟨((X2.out.set _ (by simp)).set _ (by simp)).facts.1, ((X2.out.set _ (by simp)).set _ (by simp)).facts.2.1⟩)
    (first
      | (go_at_call 56; refine H1.out.mono ?_; rintro e w1 ⟨q, rfl, hB, hq, hqv, hql, hb1⟩; have X1 := Lib.hid (X0.out.below hb1); have Y1 := Lib.hid (Y0.out.below hb1); have HB1 := Lib.hid (HB0.out.trans (hb1.mono HB0.out.size)); have hq1 : Rd w1 (some ⟨_, 0, none⟩) q := Rd.of_blk (pre := []) (post := []) (by simpa using hB); have HS := Lib.hid (signed_num (!s) _ q.length q w1 (Nat.le_refl _) (by omega) hq1 hq); rw [hqv] at HS; clear hB hq1 hq hb1 hqv)
      | (go_at_call 40; refine HS.out.mono ?_; rintro e w2 ⟨A2, n2, c2, rfl, hv, hb2⟩; have X2 := Lib.hid (X1.out.below hb2); have Y2 := Lib.hid (Y1.out.below hb2); obtain ⟨q0, q1, z0, z1, zl⟩ := (Y1.out.below hb2).facts; have HB2 := Lib.hid (HB1.out.trans (hb2.mono HB1.out.size)); have HV := Lib.hid hv; clear hv hb2))
  all_goals
    obtain ⟨W3, hW3, Z, hb3, hv3, -, -, -⟩ := stored_world Y2.out HB2.out (by omega) (decide (sg (!s) (val r) < 0)) A2 n2 c2
    rw [hW3]
    have HV3 := Lib.hid (hv3 _ _ HV.out)
    obtain ⟨c0, c1, -, -, -⟩ := Z.facts
    clear q0 q1 z0 z1 zl hW3 hv3
    go_wp2
    refine bodyPost_ret (v := .agg #[.bool (decide (sg (!s) (val r) < 0)), .slice A2 n2 c2]) (by simp [results, Tryd.results30, go_sem, c0, c1]) rfl ?_
    exact ⟨_, _, _, rfl, HV3.out, hb3⟩

end LM
end Go.Proofs.YtfckjapedjjhpaaDoor
