/- Walks of package limb: Add: the sum. -/
import Derived.Test.YtpoojlnndgoeoaaGreatDoorLimbB
import Derived.Test.YtpoojlnndgoeoaaGreatDoorLimbMath
import Derived.Deep.RegionWith
import Derived.Test.YtpoojlnndgoeoaaGreatDoorLimbL
namespace Go.Proofs.YtpoojlnndgoeoaaGreatDoor
open Go.RowKit
namespace LM

/-- where the loop stands when k limbs are done -/
def AtRel (w : World) (g : Nat) (pre post xs ys : List Nat) (n : Nat) (c i : Value) (wr : World) : Prop :=
  ∃ (k : Nat) (zs : List Nat) (cy : Nat), k ≤ ys.length ∧ i = .int .i64 (k : Int) ∧ c = .int .u64 (cy : Int) ∧ cy < 4294967296 ∧ zs.length = k ∧ Lm zs ∧
    val zs + 4294967296 ^ k * cy = val (xs.take k) + val (ys.take k) * n ∧ Blk wr g (U (pre ++ (zs ++ xs.drop k) ++ post)) ∧ w.grownBy wr (some g)

theorem blk_mid_cell {w : World} {g : Nat} {pre post zs xs : List Nat} {k : Nat} (h : Blk w g (U (pre ++ (zs ++ xs.drop k) ++ post))) (hz : zs.length = k) (hk : k < xs.length) :
    w.cell? ⟨g, pre.length + k, none⟩ = some (.int .u32 ((xs[k]?.getD 0 : Nat) : Int)) := by
  rw [h.cell, U_get _ _ (by simp; omega)]
  congr 3
  rw [List.append_assoc, List.getElem?_append_right (by omega), List.append_assoc, List.getElem?_append_right (by omega), List.getElem?_append_left (by simp; omega), List.getElem?_drop]
  congr 2; omega
theorem blk_mid_set {w : World} {g : Nat} {pre post zs xs : List Nat} {k : Nat} (h : Blk w g (U (pre ++ (zs ++ xs.drop k) ++ post))) (hz : zs.length = k) (hk : k < xs.length) (y : Nat) {v : Value} (hv : v = .int .u32 (y : Int)) :
    Blk (w.setCell ⟨g, pre.length + k, none⟩ v) g (U (pre ++ ((zs ++ [y]) ++ xs.drop (k + 1)) ++ post)) := by
  subst hv
  have h1 := h.set_ (pre.length + k) (.int .u32 (y : Int))
  rw [drop_cons_get xs k hk] at h1
  subst hz
  rw [set_mid] at h1
  simpa using h1

set_option maxHeartbeats 400000 in
theorem addTimes_any (g cap : Nat) (pre xs post : List Nat) (B : Option Addr) (cb : Nat) (ys : List Nat) (n : Nat) (w : World)
    (hg : Blk w g (U (pre ++ xs ++ post))) (hb : Rd w B ys) (hBg : 0 < ys.length → Off B g) (hl : ys.length ≤ xs.length) (hx : Lm xs) (hy : Lm ys) (hn : n < 4294967296) (hxl : xs.length ≤ 4096) :
    Calls Tryz.prog 118 #[.slice (some ⟨g, pre.length, none⟩) xs.length cap, .slice B ys.length cb, .int .u32 (n : Int)] w fun e w' =>
      ∃ (zs : List Nat) (c : Nat), e = .returned (.int .u32 (c : Int)) ∧ c < 4294967296 ∧ zs.length = ys.length ∧ Lm zs ∧ val zs + 4294967296 ^ ys.length * c = val (xs.take ys.length) + val ys * n ∧
        Blk w' g (U (pre ++ (zs ++ xs.drop ys.length) ++ post)) ∧ w.grownBy w' (some g) := by
  go_enter Tryz.func118, Tryz.ntmps118
  go_wp2
  go_loopw [7, 11] (fun c i wr => AtRel w g pre post xs ys n c i wr) (fun _ i _ => ys.length - (intOf i).toNat)
  case atStart => exact ⟨0, [], 0, Nat.zero_le _, rfl, rfl, by decide, rfl, Lm.nil, by simp [val], by simpa using hg, only_refl _ _⟩
  case round =>
    obtain ⟨k, zs, cy, hk, rfl, rfl, hcy, hzl, hzL, hv, hB, hG⟩ := hrel
    have HV := Lib.hid hv
    have HZ := Lib.hid hzl
    clear hv
    by_cases hlt : k < ys.length
    · have hc1 := blk_mid_cell hB hzl (by omega : k < xs.length)
      have hf1 := hB.frozen (pre.length + k)
      obtain ⟨b2, o2, rfl, _, hc2⟩ := (hb.grownG hG hBg).at_ hlt
      have hxk := hx.get k
      have hyk := hy.get k
      have hp : (((ys[k]?.getD 0 : Nat) : Int) * (n : Int)) = ((ys[k]?.getD 0 * n : Nat) : Int) := by simp
      have hpl := prod_le hyk hn
      have hst := addTimes_step (xs := xs) (ys := ys) (n := n) hzl HV.out
      generalize hxe : xs[k]?.getD 0 = x at *
      generalize hye : ys[k]?.getD 0 = y at *
      generalize hpe : y * n = p at *
      have HST := Lib.hid hst
      clear hst hxe hye hpe hzl
      go_wp2_with fail
      go_quiet (fail)
      go_wp2
      go_roundw
      case rel =>
        refine ⟨k + 1, zs ++ [(cy + (p + x)) % 4294967296], (cy + (p + x)) / 4294967296, by omega, by go_num, ?_, carry_lt hcy hpl hxk, by simp [HZ.out], hzL.snoc (Nat.mod_lt _ (by decide)), HST.out, ?_, ?_⟩
        · congr 1
        · exact blk_mid_set (hB.drewN _) HZ.out (by omega) _ (by congr 1)
        · exact only_setCell (only_drewN hG _) (.inl rfl) _
      case measure => simp [intOf]; omega
    · go_wp2
      go_ret
      obtain rfl : k = ys.length := by omega
      refine ⟨zs, cy, rfl, hcy, HZ.out, hzL, ?_, hB, hG⟩
      have h := HV.out
      rwa [List.take_length (l := ys)] at h

end LM
end Go.Proofs.YtpoojlnndgoeoaaGreatDoor

namespace Go.Proofs.YtpoojlnndgoeoaaGreatDoor
open Go.RowKit
namespace LM

theorem at_nat (A : Option Addr) (c : Nat) (xs : List Nat) (k y : Nat) (w : World) (hr : Rd w A xs) (hk : k ≤ 4096) (hy : xs[k]?.getD 0 = y) :
    Calls Tryz.prog 125 #[.slice A xs.length c, .int .i64 (k : Int)] w fun e w' => e = .returned (.int .u32 (y : Int)) ∧ w = w' := by
  have h := at_any A c xs (k : Int) w hr (by omega) (by omega)
  rw [atI_nat, hy] at h
  exact h

/-- where the loop stands when k limbs are done -/
def StRel (w : World) (g : Nat) (pre post xs ys : List Nat) (n : Nat) (c b i : Value) (wr : World) : Prop :=
  ∃ (k : Nat) (zs : List Nat) (cy br : Nat), k ≤ xs.length ∧ i = .int .i64 (k : Int) ∧ c = .int .u64 (cy : Int) ∧ b = .int .u32 (br : Int) ∧ cy < 4294967296 ∧ br ≤ 1 ∧ zs.length = k ∧ Lm zs ∧
    (ys.length < k → cy = 0) ∧
    val zs + val (ys.take k) * n = val (xs.take k) + 4294967296 ^ k * (cy + br) ∧ Blk wr g (U (pre ++ (zs ++ xs.drop k) ++ post)) ∧ w.grownBy wr (some g)

theorem difHi_le (x y z : Nat) : difHi x y z ≤ 1 := by unfold difHi; omega
theorem difLo_lt (x y z : Nat) : difLo x y z < 4294967296 := Nat.mod_lt _ (by decide)
theorem carry2_lt {c p : Nat} (hc : c < 4294967296) (hp : p ≤ 18446744065119617025) : (c + p) / 4294967296 < 4294967296 := by omega

end LM
end Go.Proofs.YtpoojlnndgoeoaaGreatDoor

namespace Go.Proofs.YtpoojlnndgoeoaaGreatDoor
open Go.RowKit
namespace LM

/-- where the loop stands when k limbs are done -/
def AdRel (w : World) (g : Nat) (pre post xs ys : List Nat) (c i : Value) (wr : World) : Prop :=
  ∃ (k : Nat) (zs : List Nat) (cy : Nat), k ≤ xs.length ∧ i = .int .i64 (k : Int) ∧ c = .int .u32 (cy : Int) ∧ cy ≤ 1 ∧ zs.length = k ∧ Lm zs ∧
    val zs + 4294967296 ^ k * cy = val (xs.take k) + val (ys.take k) ∧ Blk wr g (U (pre ++ (zs ++ xs.drop k) ++ post)) ∧ w.grownBy wr (some g)

theorem sumHi_le {x y z : Nat} (hx : x < 4294967296) (hy : y < 4294967296) (hz : z ≤ 1) : sumHi x y z ≤ 1 := by unfold sumHi; omega
theorem sumLo_lt' (x y z : Nat) : sumLo x y z < 4294967296 := Nat.mod_lt _ (by decide)

end LM
end Go.Proofs.YtpoojlnndgoeoaaGreatDoor

namespace Go.Proofs.YtpoojlnndgoeoaaGreatDoor
open Go.RowKit
namespace LM

/-- too great for 64 limbs -/
def BIG (n : Nat) : Prop := 4294967296 ^ 64 ≤ n
theorem big_iff {xs : List Nat} (h : Can xs) : 64 < xs.length ↔ BIG (val xs) := can_len h 64
theorem big_trim {xs : List Nat} (h : Lm xs) : 64 < (trim xs).length ↔ BIG (val xs) := by rw [big_iff (can_trim h), val_trim]
theorem BIG.mono {a b : Nat} (h : BIG a) (hab : a ≤ b) : BIG b := Nat.le_trans h hab

/-- a slice that reads as this number, without leading zeros -/
def NumV (w : World) (v : Value) (n : Nat) : Prop := ∃ A c r, v = .slice A (List.length r) c ∧ r.length ≤ c ∧ c ≤ 1000000 ∧ Rd w A r ∧ Can r ∧ val r = n
theorem NumV.keep {w w' : World} {v : Value} {n : Nat} (h : NumV w v n) (hb : Below w.heap.size w w') : NumV w' v n := by
  obtain ⟨A, c, r, e, h1, h2, h3, h4, h5⟩ := h
  exact ⟨A, c, r, e, h1, h2, h3.below hb, h4, h5⟩
/-- what a reckoning answers whose outcome may be too great -/
def Ans (w : World) (v : Value) (er : Int) (bad : Prop) (n : Nat) : Prop := (bad ∧ v = .slice none 0 0 ∧ er = 11) ∨ (¬ bad ∧ er = 0 ∧ NumV w v n)
def AnsE (w : World) (bad : Prop) (n : Nat) (e : Ending) (w' : World) : Prop := ∃ v er, e = .returned (.tuple #[v, .int .i64 er]) ∧ Ans w' v er bad n ∧ Below w.heap.size w w'

/-- the last step of such a reckoning, in a block of the call's own -/
theorem bounded_ans {w1 : World} {g N : Nat} {us : List Nat} {bad : Prop} (hB : Blk w1 g (U us)) (hul : us.length = N) (huL : Lm us) (hN : N ≤ 4000) (hbad : bad ↔ BIG (val us)) :
    Calls Tryz.prog 119 #[.slice (some ⟨g, 0, none⟩) N N] w1 fun e w' => (∃ v er, e = .returned (.tuple #[v, .int .i64 er]) ∧ Ans w' v er bad (val us)) ∧ w1 = w' := by
  subst hul
  have hr : Rd w1 (some ⟨g, 0, none⟩) us := by
    have h := Rd.of_blk (w := w1) (g := g) (pre := []) (xs := us) (post := []) (by simpa using hB)
    simpa using h
  by_cases hl : 64 < (trim us).length
  · exact (bounded_big _ _ us w1 hr (Nat.le_refl _) (by unfold maxLen; omega) hl).mono fun e w' ⟨he, hw⟩ => ⟨⟨_, _, he, .inl ⟨hbad.2 ((big_trim huL).1 hl), rfl, rfl⟩⟩, hw⟩
  · exact (bounded_ok _ _ us w1 hr (Nat.le_refl _) (by unfold maxLen; omega) (by omega)).mono fun e w' ⟨he, hw⟩ => by
      subst hw
      exact ⟨⟨_, _, he, .inr ⟨fun h => hl ((big_trim huL).2 (hbad.1 h)), rfl, _, _, trim us, rfl, by have := trim_length_le us; omega, by omega, hr.trim, can_trim huL, val_trim us⟩⟩, rfl⟩

theorem carry_zero {xt yt us : List Nat} {c N : Nat} (hx : Lm xt) (hy : Lm yt) (hN : N = max xt.length yt.length + 1) (hc : c ≤ 1) (h : val us + 4294967296 ^ N * c = val xt + val yt) : c = 0 ∧ val us = val xt + val yt := by
  have e1 := val_len_lt hx (n := max xt.length yt.length) (by omega)
  have e2 := val_len_lt hy (n := max xt.length yt.length) (by omega)
  rw [hN, Nat.pow_succ] at h
  generalize 4294967296 ^ (max xt.length yt.length) = P at *
  generalize val us = u at *
  generalize val xt = x at *
  generalize val yt = y at *
  have h3 : c = 0 ∨ c = 1 := by omega
  rcases h3 with rfl | rfl
  · exact ⟨rfl, by rw [Nat.mul_zero, Nat.add_zero] at h; exact h⟩
  · rw [Nat.mul_one] at h; omega

end LM
end Go.Proofs.YtpoojlnndgoeoaaGreatDoor
