/- Walks of package limb: addTo: a number is added in its place. -/
import Derived.Deep.RegionWith
import Derived.Test.YtfckjapedjjhpaaDoorLimbD
namespace Go.Proofs.YtfckjapedjjhpaaDoor
open Go.RowKit
namespace LM

/-- where the loop stands when k limbs are done -/
def AdRel (w : World) (g : Nat) (pre post xs ys : List Nat) (c i : Value) (wr : World) : Prop :=
  ∃ (k : Nat) (zs : List Nat) (cy : Nat), k ≤ xs.length ∧ i = .int .i64 (k : Int) ∧ c = .int .u32 (cy : Int) ∧ cy ≤ 1 ∧ zs.length = k ∧ Lm zs ∧
    val zs + 4294967296 ^ k * cy = val (xs.take k) + val (ys.take k) ∧ Blk wr g (U (pre ++ (zs ++ xs.drop k) ++ post)) ∧ w.grownBy wr (some g)

theorem sumHi_le {x y z : Nat} (hx : x < 4294967296) (hy : y < 4294967296) (hz : z ≤ 1) : sumHi x y z ≤ 1 := by unfold sumHi; omega
theorem sumLo_lt' (x y z : Nat) : sumLo x y z < 4294967296 := Nat.mod_lt _ (by decide)

set_option maxHeartbeats 400000 in
theorem addTo_any (g cap : Nat) (pre xs post : List Nat) (B : Option Addr) (cb : Nat) (ys : List Nat) (w : World)
    (hg : Blk w g (U (pre ++ xs ++ post))) (hb : Rd w B ys) (hBg : 0 < ys.length → Off B g) (hl : ys.length ≤ xs.length) (hx : Lm xs) (hy : Lm ys) (hxl : xs.length ≤ 4096) :
    Calls Tryd.prog 73 #[.slice (some ⟨g, pre.length, none⟩) xs.length cap, .slice B ys.length cb] w fun e w' =>
      ∃ (zs : List Nat) (c : Nat), e = .returned (.int .u32 (c : Int)) ∧ c ≤ 1 ∧ zs.length = xs.length ∧ Lm zs ∧ val zs + 4294967296 ^ xs.length * c = val xs + val ys ∧
        Blk w' g (U (pre ++ zs ++ post)) ∧ w.grownBy w' (some g) := by
  go_enter Tryd.func73, Tryd.ntmps73
  go_wp2
  go_loopw [5, 9] (fun c i wr => AdRel w g pre post xs ys c i wr) (fun _ i _ => xs.length - (intOf i).toNat)
  case atStart => exact ⟨0, [], 0, Nat.zero_le _, rfl, rfl, by decide, rfl, Lm.nil, by simp [val], by simpa using hg, only_refl _ _⟩
  case round =>
    obtain ⟨k, zs, cy, hk, rfl, rfl, hcy, hzl, hzL, hv, hB, hG⟩ := hrel
    have HV := Lib.hid hv
    have HZ := Lib.hid hzl
    clear hv
    by_cases hlt : k < xs.length
    · have hc1 := blk_mid_cell hB hzl (by omega : k < xs.length)
      have hf1 := hB.frozen (pre.length + k)
      have hb2 := hb.grownG hG hBg
      have hxk := hx.get k
      have hyk := hy.get k
      have hst := addTo_step (xs := xs) (ys := ys) hzl HV.out
      generalize hxe : xs[k]?.getD 0 = x at *
      generalize hye : ys[k]?.getD 0 = y at *
      have HST := Lib.hid hst
      have HXE := Lib.hid hxe
      have HYE := Lib.hid hye
      clear hst hxe hye hzl
      go_wp2_with fail
      go_region_with (first | (go_at_call 71; refine (at_nat B cb ys k y _ hb2.drew (by omega) HYE.out).mono ?_; rintro e w1 ⟨rfl, rfl⟩) | (go_at_call 98; refine (add32_any _ _ _ _ hxk hyk hcy).mono ?_; rintro e w1 ⟨rfl, rfl⟩))
      all_goals
        go_wp2
        go_roundw
        case rel =>
          refine ⟨k + 1, zs ++ [sumLo x y cy], sumHi x y cy, by omega, by go_num, rfl, sumHi_le hxk hyk hcy, by simp [HZ.out], hzL.snoc (sumLo_lt' _ _ _), HST.out, ?_, ?_⟩
          · exact blk_mid_set (w := wr.drew) hB.drew HZ.out (by omega) _ rfl
          · exact only_setCell (only_drew hG) (.inl rfl) _
        case measure => simp [intOf]; omega
    · go_wp2
      go_ret
      obtain rfl : k = xs.length := by omega
      refine ⟨zs, cy, rfl, hcy, HZ.out, hzL, ?_, by simpa using hB, hG⟩
      have h := HV.out
      rw [List.take_of_length_le (by omega : ys.length ≤ xs.length), List.take_length (l := xs)] at h
      exact h

end LM
end Go.Proofs.YtfckjapedjjhpaaDoor
