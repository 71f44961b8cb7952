/- Walk of the library: a floating number's digits written with a point. -/
import Derived.Test.YtpnjddfnlaonoaaGreatDoorK06
import Derived.Deep.LoopGhost
namespace Go.Proofs.YtpnjddfnlaonoaaGreatDoor
open Go Go.Shelf Go.RowKit Go.Sort Go.Lib
namespace LM
set_option linter.unusedVariables false

def intB (l : List UInt8) (dp : Int) : List UInt8 := if 0 < dp then l.take dp.toNat ++ List.replicate (dp.toNat - l.length) 48 else [48]
def fracB (l : List UInt8) (dp : Int) : List UInt8 := if (l.length : Int) ≤ dp then [] else 46 :: (List.replicate (-dp).toNat 48 ++ l.drop dp.toNat)
/-- what the library writes: some digits, with a point among them if it isn't behind them all -/
def fmtF (neg : Bool) (l : List UInt8) (dp : Int) : List UInt8 := signB neg ++ (intB l dp ++ fracB l dp)

set_option maxRecDepth 100000 in
set_option maxHeartbeats 4000000 in
theorem fmtF_zero (B : Nat) (W0 : World) (v : Value) (b0 : List UInt8) (w : World) (neg : Bool) (g : Nat)
    (hob : OB B W0 g [] v b0 w) (hb0 : b0.length ≤ 1000) :
    Calls Tryz.prog 220 #[v, .bool neg, .slice none 0 0, .int .i64 0, .int .i64 0, .int .i64 (-1), .int .u8 102, .bool true] w fun e w' =>
      ∃ v', e = .returned v' ∧ OB B W0 g [] v' (b0 ++ fmtF neg [] 0) w' := by
  obtain ⟨i0, hi0, hz0, hz1, hz2⟩ := info_parts8 u8_info
  have HOB := Lib.hid hob
  clear hob
  cases neg
  · go_enter Tryz.func220, Tryz.ntmps220
    go_wp2_with (at_builtin; refine wpList_bytes rfl _ _ 132 rfl i0 Tryz.underlying132 hi0 hz0 hz1 hz2 [48] _ 1 rfl rfl rfl HOB.out rfl (by omega) ?_; intro v2 w2 hob2)
    go_ret
    exact ⟨_, rfl, hob2⟩
  · go_enter Tryz.func220, Tryz.ntmps220
    go_wp2_with (first
      | (at_builtin; refine wpList_bytes rfl _ _ 132 rfl i0 Tryz.underlying132 hi0 hz0 hz1 hz2 [45] _ 1 rfl rfl rfl HOB.out rfl (by omega) ?_; intro v1 w1 hob1)
      | (at_builtin; refine wpList_bytes rfl _ _ 132 rfl i0 Tryz.underlying132 hi0 hz0 hz1 hz2 [48] _ 1 rfl rfl rfl hob1 rfl (by simp; omega) ?_; intro v2 w2 hob2))
    go_ret
    refine ⟨_, rfl, ?_⟩
    rw [List.append_assoc] at hob2
    exact hob2

set_option maxRecDepth 100000 in
set_option maxHeartbeats 8000000 in
theorem fmtF_any (B : Nat) (W0 : World) (g : Nat) (ds : List UInt8) (v : Value) (b0 : List UInt8) (w : World) (neg : Bool) (dp prec : Int) (nd : Nat)
    (hob : OB B W0 g ds v b0 w) (hb0 : b0.length ≤ 1000) (hnl : nd ≤ ds.length) (hdl : ds.length ≤ 32) (hdp : -900 ≤ dp ∧ dp ≤ 900) (hprec : prec = max ((nd : Int) - dp) 0) :
    Calls Tryz.prog 220 #[v, .bool neg, .slice (some ⟨g, 0, none⟩) 32 32, .int .i64 dp, .int .i64 (nd : Int), .int .i64 prec, .int .u8 102, .bool true] w fun e w' =>
      ∃ v', e = .returned v' ∧ OB B W0 g ds v' (b0 ++ fmtF neg (ds.take nd) dp) w' := by
  obtain ⟨i0, hi0, hz0, hz1, hz2⟩ := info_parts8 u8_info
  have HOB := Lib.hid hob
  have HPR := Lib.hid hprec
  have hpb : 0 ≤ prec ∧ prec ≤ 2000 := by omega
  obtain ⟨l, hl⟩ : ∃ l, ds.take nd = l := ⟨_, rfl⟩
  have hll : l.length = nd := by rw [← hl, List.length_take]; omega
  have HL := Lib.hid hl
  have HLL := Lib.hid hll
  rw [hl]
  clear hob hprec hl hll
  go_enter Tryz.func220, Tryz.ntmps220
  go_upto_if 178 with (fail)
  go_cut [0] (fun v1 wx => OB B W0 g ds v1 (b0 ++ signB neg) wx)
  case first =>
    cases neg
    · go_wp2_with (fail)
      go_meet
      case rel => simpa [signB] using HOB.out
    · go_wp2_with (at_builtin; refine wpList_bytes rfl _ _ 132 rfl i0 Tryz.underlying132 hi0 hz0 hz1 hz2 [45] _ 1 rfl rfl rfl HOB.out rfl (by omega) ?_; intro v1 w1 hob1)
      go_meet
      case rel => exact hob1
  case rest =>
    have HO1 := Lib.hid hcut
    have hsl : (signB neg).length ≤ 1 := by cases neg <;> decide
    clear hcut HOB
    go_upto_if 183 with (fail)
    go_cut [0] (fun v1 wx => OB B W0 g ds v1 (b0 ++ signB neg ++ intB l dp) wx)
    case first =>
      by_cases h0 : 0 < dp
      · obtain ⟨D, rfl⟩ : ∃ D : Nat, dp = (D : Int) := ⟨dp.toNat, by omega⟩
        obtain ⟨k, hk⟩ : ∃ k : Nat, min nd D = k := ⟨_, rfl⟩
        have hki : min (nd : Int) (D : Int) = (k : Int) := by omega
        have hkd : k ≤ D ∧ k ≤ nd := by omega
        have hdk : (D : Int) - (k : Int) = ((D - k : Nat) : Int) := by omega
        obtain ⟨z, hz⟩ : ∃ z, D - k = z := ⟨_, rfl⟩
        have hzb : z ≤ 900 := by omega
        rw [hz] at hdk
        have hib : intB l (D : Int) = ds.take k ++ List.replicate z 48 := by
          unfold intB
          rw [if_pos h0, Int.toNat_natCast, HLL.out, ← HL.out, List.take_take, ← hz, ← hk]
          congr 2
          · omega
          · omega
        have HIB := Lib.hid hib
        clear hib hk hz
        go_wp2_with (fail)
        rw [show decide (0 < (D : Int)) = true from decide_eq_true h0]
        go_loopg [0, 25, 191] k (fun kk v3 _ i wr => ∃ j : Nat, kk + j = k ∧ i = .int .i64 (j : Int) ∧ OB B W0 g ds v3 (b0 ++ signB neg ++ ds.take j) wr)
        case atStart => exact ⟨0, by omega, rfl, by simpa using HO1.out⟩
        case round =>
          obtain ⟨j, hj, rfl, hr1⟩ := hrel
          have HR1 := Lib.hid hr1
          by_cases hjk : j < k
          · have hjd : j < ds.length := by omega
            have hc : wr.cell? ⟨g, j, none⟩ = some (.int .u8 (ds[j].toNat : Int)) := by
              rcases hr1.2.2.2 with h | ⟨_, _, h⟩
              · rw [h] at hjd; cases hjd
              · exact h j hjd
            have htk : ds.take (j + 1) = ds.take j ++ [ds[j]] := List.take_succ_eq_append_getElem hjd
            have HTK := Lib.hid htk
            have htl : (ds.take j).length ≤ 32 := by rw [List.length_take]; omega
            generalize ds[j] = c0 at hc HTK
            clear hr1 htk
            go_wp2_with (at_builtin; refine wpList_bytes rfl _ _ 132 rfl i0 Tryz.underlying132 hi0 hz0 hz1 hz2 [c0] _ 1 rfl rfl rfl HR1.out rfl (by simp; omega) ?_; intro v4 w4 hob4)
            go_roundg (gk - 1)
            case measure => omega
            case rel => exact ⟨j + 1, by omega, by go_num, by rw [HTK.out, ← List.append_assoc]; exact hob4⟩
          · obtain rfl : j = k := by omega
            have htl : (ds.take j).length ≤ 32 := by rw [List.length_take]; omega
            clear hr1
            go_wp2_with (fail)
            go_loopg [0, 203] z (fun kk v3 i wr => ∃ y : Nat, kk + y = z ∧ i = .int .i64 (y : Int) ∧ OB B W0 g ds v3 (b0 ++ signB neg ++ ds.take j ++ List.replicate y 48) wr)
            case atStart => exact ⟨0, by omega, rfl, by simpa using HR1.out⟩
            case round =>
              obtain ⟨y, hy, rfl, hr2⟩ := hrel
              have HR2 := Lib.hid hr2
              clear hr2
              by_cases hyz : y < z
              · go_wp2_with (at_builtin; refine wpList_bytes rfl _ _ 132 rfl i0 Tryz.underlying132 hi0 hz0 hz1 hz2 [48] _ 1 rfl rfl rfl HR2.out rfl (by simp; omega) ?_; intro v4 w4 hob4)
                go_roundg (gk - 1)
                case measure => omega
                case rel => exact ⟨y + 1, by omega, by go_num, by rw [List.replicate_succ', ← List.append_assoc]; exact hob4⟩
              · obtain rfl : y = z := by omega
                go_wp2_with (fail)
                go_meet
                case rel => rw [HIB.out, ← List.append_assoc]; exact HR2.out

      · have hib : intB l dp = [48] := by unfold intB; rw [if_neg h0]
        have HIB := Lib.hid hib
        clear hib
        go_wp2_with (at_builtin; refine wpList_bytes rfl _ _ 132 rfl i0 Tryz.underlying132 hi0 hz0 hz1 hz2 [48] _ 1 rfl rfl rfl HO1.out rfl (by simp; omega) ?_; intro v1 w1 hob1)
        go_meet
        case rel => rw [HIB.out]; exact hob1
    case rest =>
      have HO2 := Lib.hid hcut
      have hil : (intB l dp).length ≤ 2000 := by
        unfold intB
        split
        · simp; omega
        · simp
      clear hcut HO1
      by_cases hp : (nd : Int) ≤ dp
      · have hpz : prec = 0 := by have := HPR.out; omega
        subst hpz
        have hfb : fracB l dp = [] := by unfold fracB; rw [HLL.out, if_pos hp]
        have HFB := Lib.hid hfb
        clear hfb
        go_wp2_with (fail)
        go_ret
        refine ⟨_, rfl, ?_⟩
        unfold fmtF
        rw [HFB.out, List.append_nil, ← List.append_assoc]
        exact HO2.out
      · have hpz : prec = (nd : Int) - dp := by have := HPR.out; omega
        subst hpz
        obtain ⟨lz, hlz⟩ : ∃ z : Nat, (-dp).toNat = z := ⟨_, rfl⟩
        obtain ⟨of, hof⟩ : ∃ z : Nat, dp.toNat = z := ⟨_, rfl⟩
        have hm1 : max (0 : Int) (-dp) = (lz : Int) := by omega
        have hm2 : min ((nd : Int) - dp) (lz : Int) = (lz : Int) := by omega
        have hm3 : dp + (lz : Int) = (of : Int) := by omega
        obtain ⟨m, hm⟩ : ∃ z : Nat, nd - of = z := ⟨_, rfl⟩
        have hm4 : (nd : Int) - (of : Int) = (m : Int) := by omega
        have hm5 : (nd : Int) - dp - (lz : Int) = (m : Int) := by omega
        have hofl : of + m = nd := by omega
        have hlzb : lz ≤ 900 := by omega
        have hfb : fracB l dp = 46 :: (List.replicate lz 48 ++ l.drop of) := by unfold fracB; rw [HLL.out, if_neg hp, hlz, hof]
        have HFB := Lib.hid hfb
        clear hfb hlz hof hm
        have hd0 : (0 : Int) < (nd : Int) - dp := by omega
        have HFIN : Hid (fmtF neg l dp = signB neg ++ (intB l dp ++ fracB l dp)) := Lib.hid rfl
        have hlofd : l.drop of = (ds.drop of).take m := by rw [← HL.out, List.drop_take, show nd - of = m from by omega]
        have HLOF := Lib.hid hlofd
        clear hlofd
        go_wp2_with (at_builtin; refine wpList_bytes rfl _ _ 132 rfl i0 Tryz.underlying132 hi0 hz0 hz1 hz2 [46] _ 1 rfl rfl rfl HO2.out rfl (by simp; omega) ?_; intro v5 w5 hob5)
        first
          | rw [show decide (0 < (nd : Int) - dp) = true from decide_eq_true hd0]
          | skip
        have HO5 := Lib.hid hob5
        clear hob5
        go_loopg [0, 240] lz (fun kk v3 i wr => ∃ y : Nat, kk + y = lz ∧ i = .int .i64 (y : Int) ∧ OB B W0 g ds v3 (b0 ++ signB neg ++ intB l dp ++ [46] ++ List.replicate y 48) wr)
        case atStart => exact ⟨0, by omega, rfl, by simpa using HO5.out⟩
        case round =>
          obtain ⟨y, hy, rfl, hr2⟩ := hrel
          have HR2 := Lib.hid hr2
          clear hr2
          by_cases hyz : y < lz
          · go_wp2_with (at_builtin; refine wpList_bytes rfl _ _ 132 rfl i0 Tryz.underlying132 hi0 hz0 hz1 hz2 [48] _ 1 rfl rfl rfl HR2.out rfl (by simp; omega) ?_; intro v4 w4 hob4)
            go_roundg (gk - 1)
            case measure => omega
            case rel => exact ⟨y + 1, by omega, by go_num, by rw [List.replicate_succ', ← List.append_assoc]; exact hob4⟩
          · obtain rfl : y = lz := by omega
            go_wp2_with (fail)
            go_loopg [0, 30, 247] m (fun kk v3 _ i wr => ∃ x : Nat, kk + x = m ∧ i = .int .i64 (x : Int) ∧ OB B W0 g ds v3 (b0 ++ signB neg ++ intB l dp ++ [46] ++ List.replicate y 48 ++ (ds.drop of).take x) wr)
            case atStart => exact ⟨0, by omega, rfl, by simpa using HR2.out⟩
            case round =>
              obtain ⟨x, hx, rfl, hr3⟩ := hrel
              have HR3 := Lib.hid hr3
              have htl : ((ds.drop of).take x).length ≤ 32 := by rw [List.length_take, List.length_drop]; omega
              by_cases hxm : x < m
              · have hjd : of + x < ds.length := by omega
                have hc : wr.cell? ⟨g, of + x, none⟩ = some (.int .u8 (ds[of + x].toNat : Int)) := by
                  rcases hr3.2.2.2 with h | ⟨_, _, h⟩
                  · rw [h] at hjd; cases hjd
                  · exact h (of + x) hjd
                have htk : (ds.drop of).take (x + 1) = (ds.drop of).take x ++ [ds[of + x]] := by
                  rw [List.take_succ_eq_append_getElem (by rw [List.length_drop]; omega), List.getElem_drop]
                have HTK := Lib.hid htk
                generalize ds[of + x] = c0 at hc HTK
                clear hr3 htk
                go_wp2_with (at_builtin; refine wpList_bytes rfl _ _ 132 rfl i0 Tryz.underlying132 hi0 hz0 hz1 hz2 [c0] _ 1 rfl rfl rfl HR3.out rfl (by simp; omega) ?_; intro v6 w6 hob6)
                go_roundg (gk - 1)
                case measure => omega
                case rel => exact ⟨x + 1, by omega, by go_num, by rw [HTK.out, ← List.append_assoc]; exact hob6⟩
              · obtain rfl : x = m := by omega
                clear hr3
                go_wp2_with (fail)
                go_loopg [0, 261] 0 (fun kk v3 i wr => i = .int .i64 0 ∧ OB B W0 g ds v3 (b0 ++ signB neg ++ intB l dp ++ [46] ++ List.replicate y 48 ++ (ds.drop of).take x) wr)
                case atStart => exact ⟨rfl, HR3.out⟩
                case round =>
                  obtain ⟨rfl, hr4⟩ := hrel
                  have HR4 := Lib.hid hr4
                  clear hr4
                  go_wp2_with (fail)
                  go_ret
                  refine ⟨_, rfl, ?_⟩
                  rw [HFIN.out, HFB.out, HLOF.out]
                  simpa using HR4.out


end LM
end Go.Proofs.YtpnjddfnlaonoaaGreatDoor
