/- Walks of package limb: addTimes: a number, some times, is added in its place. -/
import Derived.Test.YtfckjapedjjhpaaDoorLimbB
import Derived.Test.YtfckjapedjjhpaaDoorLimbMath
namespace Go.Proofs.YtfckjapedjjhpaaDoor
open Go.RowKit
namespace LM

/-- where the loop stands when k limbs are done -/
def AtRel (w : World) (g : Nat) (pre post xs ys : List Nat) (n : Nat) (c i : Value) (wr : World) : Prop :=
  ∃ (k : Nat) (zs : List Nat) (cy : Nat), k ≤ ys.length ∧ i = .int .i64 (k : Int) ∧ c = .int .u64 (cy : Int) ∧ cy < 4294967296 ∧ zs.length = k ∧ Lm zs ∧
    val zs + 4294967296 ^ k * cy = val (xs.take k) + val (ys.take k) * n ∧ Blk wr g (U (pre ++ (zs ++ xs.drop k) ++ post)) ∧ w.grownBy wr (some g)

theorem blk_mid_cell {w : World} {g : Nat} {pre post zs xs : List Nat} {k : Nat} (h : Blk w g (U (pre ++ (zs ++ xs.drop k) ++ post))) (hz : zs.length = k) (hk : k < xs.length) :
    w.cell? ⟨g, pre.length + k, none⟩ = some (.int .u32 ((xs[k]?.getD 0 : Nat) : Int)) := by
  rw [h.cell, U_get _ _ (by simp; omega)]
  congr 3
  rw [List.append_assoc, List.getElem?_append_right (by omega), List.append_assoc, List.getElem?_append_right (by omega), List.getElem?_append_left (by simp; omega), List.getElem?_drop]
  congr 2; omega
theorem blk_mid_set {w : World} {g : Nat} {pre post zs xs : List Nat} {k : Nat} (h : Blk w g (U (pre ++ (zs ++ xs.drop k) ++ post))) (hz : zs.length = k) (hk : k < xs.length) (y : Nat) {v : Value} (hv : v = .int .u32 (y : Int)) :
    Blk (w.setCell ⟨g, pre.length + k, none⟩ v) g (U (pre ++ ((zs ++ [y]) ++ xs.drop (k + 1)) ++ post)) := by
  subst hv
  have h1 := h.set_ (pre.length + k) (.int .u32 (y : Int))
  rw [drop_cons_get xs k hk] at h1
  subst hz
  rw [set_mid] at h1
  simpa using h1

set_option maxHeartbeats 400000 in
theorem addTimes_any (g cap : Nat) (pre xs post : List Nat) (B : Option Addr) (cb : Nat) (ys : List Nat) (n : Nat) (w : World)
    (hg : Blk w g (U (pre ++ xs ++ post))) (hb : Rd w B ys) (hBg : 0 < ys.length → Off B g) (hl : ys.length ≤ xs.length) (hx : Lm xs) (hy : Lm ys) (hn : n < 4294967296) (hxl : xs.length ≤ 4096) :
    Calls Tryd.prog 76 #[.slice (some ⟨g, pre.length, none⟩) xs.length cap, .slice B ys.length cb, .int .u32 (n : Int)] w fun e w' =>
      ∃ (zs : List Nat) (c : Nat), e = .returned (.int .u32 (c : Int)) ∧ c < 4294967296 ∧ zs.length = ys.length ∧ Lm zs ∧ val zs + 4294967296 ^ ys.length * c = val (xs.take ys.length) + val ys * n ∧
        Blk w' g (U (pre ++ (zs ++ xs.drop ys.length) ++ post)) ∧ w.grownBy w' (some g) := by
  go_enter Tryd.func76, Tryd.ntmps76
  go_wp2
  go_loopw [7, 11] (fun c i wr => AtRel w g pre post xs ys n c i wr) (fun _ i _ => ys.length - (intOf i).toNat)
  case atStart => exact ⟨0, [], 0, Nat.zero_le _, rfl, rfl, by decide, rfl, Lm.nil, by simp [val], by simpa using hg, only_refl _ _⟩
  case round =>
    obtain ⟨k, zs, cy, hk, rfl, rfl, hcy, hzl, hzL, hv, hB, hG⟩ := hrel
    have HV := Lib.hid hv
    have HZ := Lib.hid hzl
    clear hv
    by_cases hlt : k < ys.length
    · have hc1 := blk_mid_cell hB hzl (by omega : k < xs.length)
      have hf1 := hB.frozen (pre.length + k)
      obtain ⟨b2, o2, rfl, _, hc2⟩ := (hb.grownG hG hBg).at_ hlt
      have hxk := hx.get k
      have hyk := hy.get k
      have hp : (((ys[k]?.getD 0 : Nat) : Int) * (n : Int)) = ((ys[k]?.getD 0 * n : Nat) : Int) := by simp
      have hpl := prod_le hyk hn
      have hst := addTimes_step (xs := xs) (ys := ys) (n := n) hzl HV.out
      generalize hxe : xs[k]?.getD 0 = x at *
      generalize hye : ys[k]?.getD 0 = y at *
      generalize hpe : y * n = p at *
      have HST := Lib.hid hst
      clear hst hxe hye hpe hzl
      go_wp2_with fail
      go_quiet (fail)
      go_wp2
      go_roundw
      case rel =>
        refine ⟨k + 1, zs ++ [(cy + (p + x)) % 4294967296], (cy + (p + x)) / 4294967296, by omega, by go_num, ?_, carry_lt hcy hpl hxk, by simp [HZ.out], hzL.snoc (Nat.mod_lt _ (by decide)), HST.out, ?_, ?_⟩
        · congr 1
        · exact blk_mid_set (hB.drewN _) HZ.out (by omega) _ (by congr 1)
        · exact only_setCell (only_drewN hG _) (.inl rfl) _
      case measure => simp [intOf]; omega
    · go_wp2
      go_ret
      obtain rfl : k = ys.length := by omega
      refine ⟨zs, cy, rfl, hcy, HZ.out, hzL, ?_, hB, hG⟩
      have h := HV.out
      rwa [List.take_length (l := ys)] at h

end LM
end Go.Proofs.YtfckjapedjjhpaaDoor
