/- Walks of package limb: shiftedUp, shiftDown: all bits higher, all bits lower. -/
import Derived.Test.YtfckjapedjjhpaaDoorLimbF
import Derived.Test.YtfckjapedjjhpaaDoorLimbMath
namespace Go.Proofs.YtfckjapedjjhpaaDoor
open Go.RowKit
namespace LM

/-- where the loop stands when k limbs are done -/
def SuRel (w : World) (g : Nat) (xs : List Nat) (n : Nat) (i : Value) (wr : World) : Prop :=
  ∃ (k : Nat) (zs : List Nat), k ≤ xs.length + 1 ∧ i = .int .i64 (k : Int) ∧ zs.length = k ∧ Lm zs ∧
    val zs + 4294967296 ^ k * (atI xs ((k : Int) - 1) / 2 ^ (32 - n)) = val (xs.take k) * 2 ^ n ∧ Blk wr g (U ([] ++ (zs ++ (List.replicate (xs.length + 1) 0).drop k) ++ [])) ∧ Below w.heap.size w wr

set_option maxRecDepth 100000 in
set_option maxHeartbeats 400000 in
theorem shiftedUp_any (A : Option Addr) (c : Nat) (xs : List Nat) (n : Nat) (w : World) (hr : Rd w A xs) (hx : Lm xs) (hn : n < 32) (hl : xs.length ≤ 4000) :
    Calls Tryd.prog 84 #[.slice A xs.length c, .int .i64 (n : Int)] w fun e w' =>
      ∃ zs : List Nat, e = .returned (.slice (some ⟨w.heap.size, 0, none⟩) (xs.length + 1) (xs.length + 1)) ∧ zs.length = xs.length + 1 ∧ Lm zs ∧ val zs = val xs * 2 ^ n ∧ Blk w' w.heap.size (U zs) ∧ Below w.heap.size w w' := by
  have hmk := fun W => run_make_row' (P := Tryd.prog) 22 51 (.int .u32 0) 4 Tryd.underlying22 u32_info rfl .i64 .i64 (xs.length + 1) (by omega) (by omega) W
  simp only [made_zero] at hmk
  rw [show ((xs.length + 1 : Nat) : Int) = (xs.length : Int) + 1 from by omega] at hmk
  go_enter Tryd.func84, Tryd.ntmps84
  go_wp2
  go_loopw [13] (fun i wr => SuRel w w.heap.size xs n i wr) (fun i _ => xs.length + 1 - (intOf i).toNat)
  case atStart => exact ⟨0, [], Nat.zero_le _, rfl, rfl, Lm.nil, by simp [val, atI_neg], by simpa using Blk.new w _, (Below.refl _ _).alloc (Nat.le_refl _) _⟩
  case round =>
    obtain ⟨k, zs, hk, rfl, hzl, hzL, hv, hB, hG⟩ := hrel
    have HV := Lib.hid hv
    have HZ := Lib.hid hzl
    clear hv
    by_cases hlt : k < xs.length + 1
    · have hc1 := blk_mid_cell hB hzl (by simpa using hlt)
      have hf1 := hB.frozen k
      have hr2 := hr.below hG
      have hxk := hx.get k
      have hyk := atI_lt hx ((k : Int) - 1)
      have hst := up_step (xs := xs) hn hzl HV.out
      generalize hxe : xs[k]?.getD 0 = x at *
      generalize hye : atI xs ((k : Int) - 1) = y at *
      have HXE := Lib.hid hxe
      have HYE := Lib.hid hye
      have HST := Lib.hid hst
      have HUL := Lib.hid (up_limb x y hn hyk)
      clear hxe hye hzl hst
      simp only [List.length_nil, Nat.zero_add] at hc1
      go_wp2_with fail
      have hw1 : IntKind.i64.wrap ((k : Int) - 1) = (k : Int) - 1 := IntWalk.i64_in _ (by omega)
      have hw2 : IntKind.i64.wrap (32 - (n : Int)) = 32 - (n : Int) := IntWalk.i64_in _ (by omega)
      go_region_with (first | (go_at_call_of 71 (Value.int .i64 (k : Int)); refine (at_nat A c xs k x _ hr2.drew (by omega) HXE.out).mono ?_; rintro e w1 ⟨rfl, rfl⟩) | (go_at_call 71; refine (at_any A c xs _ _ hr2.drew (by omega) (by omega)).mono ?_; rw [HYE.out]; rintro e w1 ⟨rfl, rfl⟩))
      rw [HUL.out]
      go_wp2
      go_roundw
      case rel =>
        refine ⟨k + 1, zs ++ [x * 2 ^ n % 4294967296 + y / 2 ^ (32 - n)], by omega, by go_num, by simp [HZ.out], hzL.snoc (sum_lt x y hn hyk), ?_, ?_, ?_⟩
        · rw [show ((k + 1 : Nat) : Int) - 1 = (k : Int) from by omega, atI_nat, HXE.out]
          exact HST.out
        · have h := blk_mid_set (w := wr.drew) hB.drew HZ.out (by simpa using hlt) (x * 2 ^ n % 4294967296 + y / 2 ^ (32 - n)) rfl
          simp only [List.length_nil, Nat.zero_add] at h
          exact h
        · exact hG.drew.setCell (Nat.le_refl _) _
      case measure => simp [intOf]; omega
    · obtain rfl : k = xs.length + 1 := by omega
      go_wp2
      go_ret
      refine ⟨zs, rfl, HZ.out, hzL, ?_, by simpa using hB, hG⟩
      have h := HV.out
      rw [show ((xs.length + 1 : Nat) : Int) - 1 = (xs.length : Int) from by omega, atI_nat, List.getElem?_eq_none (Nat.le_refl _), List.take_of_length_le (by omega)] at h
      simpa using h

end LM
end Go.Proofs.YtfckjapedjjhpaaDoor
