/- Walks of package limb: shiftDown: all bits lower, in its place. -/
import Derived.Test.YtfckjapedjjhpaaDoorLimbG
namespace Go.Proofs.YtfckjapedjjhpaaDoor
open Go.RowKit
namespace LM

theorem at_len (A : Option Addr) (c n : Nat) (xs : List Nat) (k y : Nat) (w : World) (hr : Rd w A xs) (hn : xs.length = n) (hk : k ≤ 4096) (hy : xs[k]?.getD 0 = y) :
    Calls Tryd.prog 71 #[.slice A n c, .int .i64 (k : Int)] w fun e w' => e = .returned (.int .u32 (y : Int)) ∧ w = w' := by
  subst hn
  exact at_nat A c xs k y w hr hk hy

/-- where the loop stands when k limbs are done -/
def SdRel (w : World) (g : Nat) (pre post xs : List Nat) (n : Nat) (i : Value) (wr : World) : Prop :=
  ∃ (k : Nat) (zs : List Nat), k ≤ xs.length ∧ i = .int .i64 (k : Int) ∧ zs.length = k ∧ Lm zs ∧
    val zs * 2 ^ n + xs[0]?.getD 0 % 2 ^ n = val (xs.take k) + 4294967296 ^ k * (xs[k]?.getD 0 % 2 ^ n) ∧ Blk wr g (U (pre ++ (zs ++ xs.drop k) ++ post)) ∧ w.grownBy wr (some g)

set_option maxRecDepth 100000 in
set_option maxHeartbeats 400000 in
theorem shiftDown_any (g cap : Nat) (pre xs post : List Nat) (n : Nat) (w : World)
    (hg : Blk w g (U (pre ++ xs ++ post))) (hx : Lm xs) (hn : n < 32) (hl : xs.length ≤ 4000) :
    Calls Tryd.prog 86 #[.slice (some ⟨g, pre.length, none⟩) xs.length cap, .int .i64 (n : Int)] w fun e w' =>
      ∃ zs : List Nat, e = .returned (.tuple #[]) ∧ zs.length = xs.length ∧ Lm zs ∧ val zs * 2 ^ n + xs[0]?.getD 0 % 2 ^ n = val xs ∧ Blk w' g (U (pre ++ zs ++ post)) ∧ w.grownBy w' (some g) := by
  go_enter Tryd.func86, Tryd.ntmps86
  go_wp2
  go_loopw [7] (fun i wr => SdRel w g pre post xs n i wr) (fun i _ => xs.length - (intOf i).toNat)
  case atStart => exact ⟨0, [], Nat.zero_le _, rfl, rfl, Lm.nil, by simp [val], by simpa using hg, only_refl _ _⟩
  case round =>
    obtain ⟨k, zs, hk, rfl, hzl, hzL, hv, hB, hG⟩ := hrel
    have HV := Lib.hid hv
    have HZ := Lib.hid hzl
    clear hv
    by_cases hlt : k < xs.length
    · have hc1 := blk_mid_cell hB hzl (by omega : k < xs.length)
      have hf1 := hB.frozen (pre.length + k)
      have hr2 : Rd wr (some ⟨g, pre.length, none⟩) (zs ++ xs.drop k) := Rd.of_blk hB
      have hrl : (zs ++ xs.drop k).length = xs.length := by simp; omega
      have hry : (zs ++ xs.drop k)[k + 1]?.getD 0 = xs[k + 1]?.getD 0 := by
        rw [List.getElem?_append_right (by omega), List.getElem?_drop]; congr 2; omega
      have hxk := hx.get k
      have hyk := hx.get (k + 1)
      have hst := down_step (xs := xs) (c := xs[0]?.getD 0 % 2 ^ n) hn hzl HV.out
      have hdl := down_limb (xs[k]?.getD 0) (xs[k + 1]?.getD 0) hn hxk
      generalize hxe : xs[k]?.getD 0 = x at *
      generalize hye : xs[k + 1]?.getD 0 = y at *
      have HST := Lib.hid hst
      have HDL := Lib.hid hdl
      have HXE := Lib.hid hxe
      have HYE := Lib.hid hye
      have HRY := Lib.hid hry
      have HRL := Lib.hid hrl
      clear hxe hye hzl hst hdl hry hrl
      have hw1 : IntKind.i64.wrap ((k : Int) + 1) = ((k + 1 : Nat) : Int) := by rw [IntWalk.i64_in _ (by omega)]; omega
      have hw2 : IntKind.i64.wrap (32 - (n : Int)) = 32 - (n : Int) := IntWalk.i64_in _ (by omega)
      go_wp2_with fail
      go_region_with (go_at_call 71; refine (at_len _ cap xs.length _ (k + 1) y _ hr2.drew HRL.out (by omega) HRY.out).mono ?_; rintro e w1 ⟨rfl, rfl⟩)
      all_goals
        rw [HDL.out]
        go_wp2
        go_roundw
        case rel =>
          refine ⟨k + 1, zs ++ [y * 2 ^ (32 - n) % 4294967296 + x / 2 ^ n], by omega, by go_num, by simp [HZ.out], hzL.snoc (down_lt x y hn hxk), ?_, ?_, ?_⟩
          · rw [HYE.out]; exact HST.out
          · exact blk_mid_set (w := wr.drew) hB.drew HZ.out (by omega) _ rfl
          · exact only_setCell (only_drew hG) (.inl rfl) _
        case measure => simp [intOf]; omega
    · obtain rfl : k = xs.length := by omega
      go_wp2
      go_end0
      refine ⟨zs, rfl, HZ.out, hzL, ?_, by simpa using hB, hG⟩
      have h := HV.out
      rw [List.take_length, List.getElem?_eq_none (Nat.le_refl _)] at h
      simpa using h

end LM
end Go.Proofs.YtfckjapedjjhpaaDoor
