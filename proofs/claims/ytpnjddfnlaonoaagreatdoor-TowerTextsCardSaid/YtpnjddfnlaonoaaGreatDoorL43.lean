/- Walk of the library: a floating number's digits written with a power of ten. -/
import Derived.Test.YtpnjddfnlaonoaaGreatDoorL29
import Derived.Deep.CutRange
import Derived.Deep.DeepCutAuto
namespace Go.Proofs.YtpnjddfnlaonoaaGreatDoor
open Go Go.Shelf Go.RowKit Go.Sort Go.Lib
namespace LM
set_option linter.unusedVariables false

/-- a power of ten, as the library writes it -/
def expB (x : Int) : List UInt8 :=
  (if x < 0 then 45 else 43) :: (if x.natAbs < 10 then [48, UInt8.ofNat (48 + x.natAbs)] else if x.natAbs < 100 then [UInt8.ofNat (48 + x.natAbs / 10), UInt8.ofNat (48 + x.natAbs % 10)]
    else [UInt8.ofNat (48 + x.natAbs / 100), UInt8.ofNat (48 + x.natAbs / 10 % 10), UInt8.ofNat (48 + x.natAbs % 10)])
/-- digits behind the first one -/
def restB (l : List UInt8) : List UInt8 := if l.length ≤ 1 then [] else 46 :: l.drop 1
/-- what the library writes: some digits, and a power of ten -/
def fmtE (neg : Bool) (l : List UInt8) (dp : Int) : List UInt8 := signB neg ++ (l.take 1 ++ (restB l ++ (101 :: expB (dp - 1))))

set_option maxRecDepth 100000 in
set_option maxHeartbeats 4000000 in
theorem fmtE_any (B : Nat) (W0 : World) (g : Nat) (ds : List UInt8) (v : Value) (b0 : List UInt8) (w : World) (neg : Bool) (dp : Int) (nd : Nat)
    (hob : OB B W0 g ds v b0 w) (hb0 : b0.length ≤ 1000) (hnd : 1 ≤ nd) (hnl : nd ≤ ds.length) (hdl : ds.length ≤ 32) (hdp : -900 ≤ dp ∧ dp ≤ 900) :
    Calls Tryz.prog 220 #[v, .bool neg, .slice (some ⟨g, 0, none⟩) 32 32, .int .i64 dp, .int .i64 (nd : Int), .int .i64 ((nd : Int) - 1), .int .u8 101, .bool true] w fun e w' =>
      ∃ v', e = .returned v' ∧ OB B W0 g ds v' (b0 ++ fmtE neg (ds.take nd) dp) w' := by
  obtain ⟨i0, hi0, hz0, hz1, hz2⟩ := info_parts8 u8_info
  have HOB := Lib.hid hob
  have hds0 : 0 < ds.length := by omega
  clear hob
  go_enter Tryz.func220, Tryz.ntmps220
  go_upto_if 78 with (fail)
  go_cut [0] (fun v1 wx => OB B W0 g ds v1 (b0 ++ signB neg) wx)
  case first =>
    cases neg
    · go_wp2_with (fail)
      go_meet
      case rel => simpa [signB] using HOB.out
    · go_wp2_with (at_builtin; refine wpList_bytes rfl _ _ 132 rfl i0 Tryz.underlying132 hi0 hz0 hz1 hz2 [45] _ 1 rfl rfl rfl HOB.out rfl (by omega) ?_; intro v1 w1 hob1)
      go_meet
      case rel => exact hob1
  case rest =>
    have HO1 := Lib.hid hcut
    have hc0 : wc.cell? ⟨g, 0, none⟩ = some (.int .u8 (ds[0].toNat : Int)) := by
      rcases hcut.2.2.2 with h | ⟨_, _, h⟩
      · rw [h] at hds0; cases hds0
      · exact h 0 hds0
    obtain ⟨c0, hc0e⟩ : ∃ c, ds[0] = c := ⟨_, rfl⟩
    rw [hc0e] at hc0
    have hsl : (signB neg).length ≤ 1 := by cases neg <;> decide
    have htk : (ds.take nd).take 1 = [c0] := by
      rw [List.take_take, Nat.min_eq_left hnd, List.take_one, List.head?_eq_getElem?, List.getElem?_eq_getElem hds0, hc0e]; rfl
    have HTK := Lib.hid htk
    have dnz : ((nd : Int) == 0) = false := by rw [beq_eq_false_iff_ne]; omega
    clear hcut hc0e htk
    go_upto_if 92 with (at_builtin; refine wpList_bytes rfl _ _ 132 rfl i0 Tryz.underlying132 hi0 hz0 hz1 hz2 [c0] _ 1 rfl rfl rfl HO1.out rfl (by simp; omega) ?_; intro v2 w2 hob2)
    have HO2 := Lib.hid hob2
    clear hob2 hc0
    go_cut [0] (fun v3 wx => OB B W0 g ds v3 (b0 ++ signB neg ++ [c0] ++ restB (ds.take nd)) wx)
    case first =>
      by_cases h1 : nd = 1
      · have hr : restB (ds.take nd) = [] := by unfold restB; rw [if_pos (by rw [List.length_take]; omega)]
        have HR := Lib.hid hr
        clear hr
        go_wp2_with (fail)
        go_meet
        case rel => rw [HR.out, List.append_nil]; exact HO2.out
      · have hr : restB (ds.take nd) = 46 :: (ds.drop 1).take (nd - 1) := by
          unfold restB
          rw [if_neg (by rw [List.length_take]; omega), List.drop_take]
        have HR := Lib.hid hr
        have hm : min (nd : Int) ((nd : Int) - 1 + 1) = (nd : Int) := by omega
        clear hr
        go_wp2_with (first
          | (at_builtin; refine wpList_bytes rfl _ _ 132 rfl i0 Tryz.underlying132 hi0 hz0 hz1 hz2 [46] _ 1 rfl rfl rfl HO2.out rfl (by simp; omega) ?_; intro v3 w3 hob3)
          | (at_builtin; refine wpList_digits rfl _ _ 132 rfl i0 Tryz.underlying132 hi0 hz0 hz1 hz2 1 (nd - 1) _ (by omega) rfl hob3 rfl (by simp; omega) ?_; intro v4 w4 hob4))
        have HO4 := Lib.hid hob4
        clear hob3 hob4
        go_loopw [114, 0] (fun i v3 wr => i = .int .i64 0 ∧ OB B W0 g ds v3 (b0 ++ signB neg ++ [c0] ++ [46] ++ (ds.drop 1).take (nd - 1)) wr) (fun _ _ _ => 0)
        case atStart => exact ⟨rfl, HO4.out⟩
        case round =>
          obtain ⟨rfl, hr1⟩ := hrel
          have HR1 := Lib.hid hr1
          clear hr1
          go_wp2_with (fail)
          go_meet
          case rel => rw [HR.out]; simpa using HR1.out
    case rest =>
      have HO3 := Lib.hid hcut
      have hrl : (restB (ds.take nd)).length ≤ 33 := by
        unfold restB
        split
        · simp
        · simp; omega
      clear hcut HO1 HO2
      go_upto_if 129 with (at_builtin; refine wpList_bytes rfl _ _ 132 rfl i0 Tryz.underlying132 hi0 hz0 hz1 hz2 [101] _ 1 rfl rfl rfl HO3.out rfl (by simp; omega) ?_; intro v5 w5 hob5)
      have HO5 := Lib.hid hob5
      clear hob5
      obtain ⟨a, ha⟩ : ∃ a : Nat, (dp - 1).natAbs = a := ⟨_, rfl⟩
      have ha9 : a < 1000 := by omega
      obtain ⟨sg, hsg⟩ : ∃ sg : UInt8, (if dp - 1 < 0 then 45 else 43) = sg := ⟨_, rfl⟩
      have HSG := Lib.hid hsg
      have HEX : Hid (expB (dp - 1) = sg :: (if a < 10 then [48, UInt8.ofNat (48 + a)] else if a < 100 then [UInt8.ofNat (48 + a / 10), UInt8.ofNat (48 + a % 10)] else [UInt8.ofNat (48 + a / 100), UInt8.ofNat (48 + a / 10 % 10), UInt8.ofNat (48 + a % 10)])) := Lib.hid (by
        unfold expB
        rw [hsg, ha])
      have HA := Lib.hid ha
      clear hsg ha
      go_cut [19, 22] (fun c x wx => c = enc8 sg ∧ x = .int .i64 (a : Int) ∧ OB B W0 g ds v5 (b0 ++ signB neg ++ [c0] ++ restB (ds.take nd) ++ [101]) wx)
      case first =>
        by_cases hneg : dp - 1 < 0
        · have h1 := HSG.out
          rw [if_pos hneg] at h1
          have hx : -(dp - 1) = (a : Int) := by have := HA.out; omega
          clear HSG
          go_wp2_with (fail)
          go_meet
          case rel => exact ⟨by rw [← h1]; rfl, rfl, HO5.out⟩
        · have h1 := HSG.out
          rw [if_neg hneg] at h1
          have hx : dp - 1 = (a : Int) := by have := HA.out; omega
          clear HSG
          go_wp2_with (fail)
          go_meet
          case rel => exact ⟨by rw [← h1]; rfl, rfl, HO5.out⟩
      case rest =>
        obtain ⟨rfl, rfl, hob6⟩ := hcut
        have HO6 := Lib.hid hob6
        clear hob6 HO5 HO3
        go_upto_region 47 with (at_builtin; refine wpList_bytes rfl _ _ 132 rfl i0 Tryz.underlying132 hi0 hz0 hz1 hz2 [sg] _ 1 rfl rfl rfl HO6.out rfl (by simp; omega) ?_; intro v7 w7 hob7)
        have HO7 := Lib.hid hob7
        clear hob7 HO6
        have e0 : enc8 (UInt8.ofNat (48 + a % 10)) = .int .u8 ((a : Int) % 10 + 48) := by rw [enc_of _ (by omega)]; congr 1; omega
        have E0 := Lib.hid e0
        clear e0
        have hfin : fmtE neg (ds.take nd) dp = signB neg ++ ([c0] ++ (restB (ds.take nd) ++ (101 :: expB (dp - 1)))) := by unfold fmtE; rw [HTK.out]
        have HFIN := Lib.hid hfin
        clear hfin
        by_cases h1 : a < 10
        · have e1 : enc8 (UInt8.ofNat (48 + a)) = .int .u8 ((a : Int) + 48) := by rw [enc_of _ (by omega)]; congr 1; omega
          have E1 := Lib.hid e1
          clear e1
          have h2 := HEX.out
          rw [if_pos h1] at h2
          have HEX2 := Lib.hid h2
          clear h2
          go_wp2_with (at_builtin; refine wpList_bytes rfl _ _ 132 rfl i0 Tryz.underlying132 hi0 hz0 hz1 hz2 [48, UInt8.ofNat (48 + a)] _ 2 (by simp only [List.map_cons, List.map_nil, E1.out]; rfl) rfl rfl HO7.out rfl (by simp; omega) ?_; intro v8 w8 hob8)
          go_ret
          refine ⟨_, rfl, ?_⟩
          rw [HFIN.out, HEX2.out]
          simpa using hob8
        · by_cases h3 : a < 100
          · have e1 : enc8 (UInt8.ofNat (48 + a / 10)) = .int .u8 ((a : Int) / 10 + 48) := by rw [enc_of _ (by omega)]; congr 1; omega
            have E1 := Lib.hid e1
            clear e1
            have h2 := HEX.out
            rw [if_neg h1, if_pos h3] at h2
            have HEX2 := Lib.hid h2
            clear h2
            go_wp2_with (at_builtin; refine wpList_bytes rfl _ _ 132 rfl i0 Tryz.underlying132 hi0 hz0 hz1 hz2 [UInt8.ofNat (48 + a / 10), UInt8.ofNat (48 + a % 10)] _ 2 (by simp only [List.map_cons, List.map_nil, E1.out, E0.out]) rfl rfl HO7.out rfl (by simp; omega) ?_; intro v8 w8 hob8)
            go_ret
            refine ⟨_, rfl, ?_⟩
            rw [HFIN.out, HEX2.out]
            simpa using hob8
          · have e1 : enc8 (UInt8.ofNat (48 + a / 100)) = .int .u8 ((a : Int) / 100 + 48) := by rw [enc_of _ (by omega)]; congr 1; omega
            have e2 : enc8 (UInt8.ofNat (48 + a / 10 % 10)) = .int .u8 ((a : Int) / 10 % 10 + 48) := by rw [enc_of _ (by omega)]; congr 1; omega
            have E1 := Lib.hid e1
            have E2 := Lib.hid e2
            clear e1 e2
            have h2 := HEX.out
            rw [if_neg h1, if_neg h3] at h2
            have HEX2 := Lib.hid h2
            clear h2
            go_wp2_with (at_builtin; refine wpList_bytes rfl _ _ 132 rfl i0 Tryz.underlying132 hi0 hz0 hz1 hz2 [UInt8.ofNat (48 + a / 100), UInt8.ofNat (48 + a / 10 % 10), UInt8.ofNat (48 + a % 10)] _ 3 (by simp only [List.map_cons, List.map_nil, E1.out, E2.out, E0.out]) rfl rfl HO7.out rfl (by simp; omega) ?_; intro v8 w8 hob8)
            go_ret
            refine ⟨_, rfl, ?_⟩
            rw [HFIN.out, HEX2.out]
            simpa using hob8

end LM
end Go.Proofs.YtpnjddfnlaonoaaGreatDoor
