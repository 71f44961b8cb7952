/- Walks of package limb: takeOut: as often as it is in it, the divisor is taken out of a piece of the rest. -/
import Derived.Test.YtfckjapedjjhpaaDoorLimbH
import Derived.Test.YtfckjapedjjhpaaDoorLimbMath
namespace Go.Proofs.YtfckjapedjjhpaaDoor
open Go.RowKit
namespace LM

/-- where the loop stands -/
def ToRel (w : World) (g : Nat) (pre post xs ys : List Nat) (o l : Value) (wr : World) : Prop :=
  ∃ (zs : List Nat) (q br : Nat), o = .int .u32 (q : Int) ∧ l = .int .u32 (br : Int) ∧ q < 4294967296 ∧ br ≤ 1 ∧ zs.length = xs.length ∧ Lm zs ∧
    val zs + val ys * q = val xs + 4294967296 ^ xs.length * br ∧ (val xs < val ys * 4294967296 → val xs < val ys * (q + 1)) ∧ Blk wr g (U (pre ++ zs ++ post)) ∧ w.grownBy wr (some g)

set_option maxRecDepth 100000 in
set_option maxHeartbeats 400000 in
theorem takeOut_any (g cap : Nat) (pre xs post : List Nat) (B : Option Addr) (cb : Nat) (ys : List Nat) (w : World)
    (hg : Blk w g (U (pre ++ xs ++ post))) (hb : Rd w B ys) (hBg : 0 < ys.length → Off B g) (hxl : xs.length = ys.length + 1) (hx : Lm xs) (hy : Lm ys) (hl : xs.length ≤ 4000) (hn : 0 < ys.length)
    (ht : ys[ys.length - 1]?.getD 0 ≠ 0) :
    Calls Tryd.prog 85 #[.slice (some ⟨g, pre.length, none⟩) xs.length cap, .slice B ys.length cb] w fun e w' =>
      ∃ (zs : List Nat) (q : Nat), e = .returned (.int .u32 (q : Int)) ∧ q < 4294967296 ∧ zs.length = xs.length ∧ Lm zs ∧ val zs + val ys * q = val xs ∧ (val xs < val ys * 4294967296 → val zs < val ys) ∧ Blk w' g (U (pre ++ zs ++ post)) ∧ w.grownBy w' (some g) := by
  have hge := fun h => guess_ge hx hxl rfl hn ht h
  obtain ⟨b2, o2, rfl, _, hc0⟩ := hb (by omega)
  have c1 := blk_mid_cell (zs := xs.take ys.length) (k := ys.length) (by rw [List.take_append_drop]; exact hg) (by simp; omega) (by omega)
  have c2 := blk_mid_cell (zs := xs.take (ys.length - 1)) (k := ys.length - 1) (by rw [List.take_append_drop]; exact hg) (by simp; omega) (by omega)
  have c3 := hc0 (ys.length - 1) (by omega)
  clear hc0
  have l1 := hx.get ys.length
  have l2 := hx.get (ys.length - 1)
  have l3 := hy.get (ys.length - 1)
  have HGE := Lib.hid hge
  have hgd : guessOf xs ys ys.length = min ((xs[ys.length]?.getD 0 * 4294967296 + xs[ys.length - 1]?.getD 0) / ys[ys.length - 1]?.getD 0) 4294967295 := rfl
  have HXL := Lib.hid hxl
  have hoh := or_high l1 l2
  have hxl2 : ys.length < xs.length := by omega
  generalize xs[ys.length]?.getD 0 = x1 at *
  generalize xs[ys.length - 1]?.getD 0 = x2 at *
  generalize ys[ys.length - 1]?.getD 0 = y1 at *
  have hdv : ((x1 : Int) * 4294967296 + (x2 : Int)) / (y1 : Int) = (((x1 * 4294967296 + x2) / y1 : Nat) : Int) := by simp
  generalize (x1 * 4294967296 + x2) / y1 = d at *
  have HGD := Lib.hid hgd
  have HT := Lib.hid ht
  have ht2 : 1 ≤ y1 := by omega
  clear hge hgd hxl ht
  have hw1 : IntKind.i64.wrap ((ys.length : Int) - 1) = ((ys.length - 1 : Nat) : Int) := by rw [IntWalk.i64_in _ (by omega)]; omega
  go_enter Tryd.func85, Tryd.ntmps85
  go_wp2_with fail
  go_quiet (fail)
  go_wp2_with fail
  all_goals
    first
    | rw [show (4294967295 : Int) = ((guessOf xs ys ys.length : Nat) : Int) from by rw [HGD.out]; omega]
    | rw [show (d : Int) = ((guessOf xs ys ys.length : Nat) : Int) from by rw [HGD.out]; omega]
    have hgl := guess_lt xs ys ys.length
    generalize guessOf xs ys ys.length = q0 at *
    refine (subTimes_any g cap pre xs post _ cb ys q0 _ (hg.drewN _) (hb.drewN _) hBg hxl2 hx hy hgl (by omega)).mono ?_
    rintro e w1 ⟨zs, br, rfl, hbr, hzl, hzL, hv, hB, hG⟩
    have HV := Lib.hid hv
    have HZ := Lib.hid hzl
    clear hv hzl
    have hG1 : w.grownBy w1 (some g) := only_trans (only_drewN (only_refl w _) _) hG
    go_wp2_with fail
    go_loopw [7, 8] (fun o l wr => ToRel w g pre post xs ys o l wr) (fun o l _ => (intOf o).toNat + (intOf l).toNat)
    case atStart => exact ⟨zs, q0, br, rfl, rfl, hgl, hbr, HZ.out, hzL, HV.out, HGE.out, hB, hG1⟩
    case round =>
      clear HV HZ hB hG hG1 hzL hbr
      obtain ⟨zs, q, br, rfl, rfl, hq, hbr, hzl, hzL, hv, hlow, hB, hG⟩ := hrel
      have HLOW := Lib.hid hlow
      have HV := Lib.hid hv
      have HZ := Lib.hid hzl
      clear hlow hv
      rcases Nat.eq_zero_or_pos br with rfl | hpos
      · clear hzl
        go_wp2
        go_ret
        have hv := HV.out
        refine ⟨zs, q, rfl, hq, HZ.out, hzL, by simpa using hv, fun hh => ?_, hB, hG⟩
        have hlow := HLOW.out hh
        rw [Nat.mul_add, Nat.mul_one] at hlow
        rw [Nat.mul_zero, Nat.add_zero] at hv
        omega
      · obtain rfl : br = 1 := by omega
        have hv := HV.out
        have hzlt := val_lt hzL
        rw [hzl] at hzlt
        have hq1 : 1 ≤ q := by
          rcases Nat.eq_zero_or_pos q with rfl | h
          · rw [Nat.mul_zero] at hv; omega
          · exact h
        have hc := addTo_any g cap pre zs post _ cb ys wr hB (hb.grownG hG hBg) hBg (by omega) hzL hy (by omega)
        rw [hzl] at hc
        have HC := Lib.hid hc
        clear hc hzl hzlt hv
        go_wp2_with fail
        refine HC.out.mono ?_
        rintro e w2 ⟨us, c, rfl, hc, hul, huL, huv, hB2, hG2⟩
        have HUV := Lib.hid huv
        have HUL := Lib.hid hul
        clear huv hul HC
        go_wp2
        go_roundw
        case rel =>
          refine ⟨us, q - 1, 1 - c, ?_, ?_, by omega, by omega, HUL.out, huL, ?_, ?_, hB2, only_trans hG hG2⟩
          · congr 1; omega
          · congr 1; omega
          · have h1 := HUV.out
            have h2 := HV.out
            obtain ⟨r, rfl⟩ : ∃ r, q = r + 1 := ⟨q - 1, by omega⟩
            rw [Nat.add_sub_cancel]
            rw [Nat.mul_add, Nat.mul_one] at h2
            generalize 4294967296 ^ xs.length = P at *
            have h3 : c = 0 ∨ c = 1 := by omega
            rcases h3 with rfl | rfl
            · simp only [Nat.mul_zero, Nat.sub_zero, Nat.mul_one] at *; omega
            · simp only [Nat.sub_self, Nat.mul_zero, Nat.mul_one] at *; omega
          · intro _
            have h2 := HV.out
            have h4 := val_lt hzL
            rw [HZ.out] at h4
            rw [Nat.sub_add_cancel hq1]
            omega
        case measure => simp [intOf]; omega

end LM
end Go.Proofs.YtfckjapedjjhpaaDoor
