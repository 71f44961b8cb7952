/- Walks of package limb: takeOut: as often as it is in it, the divisor is taken out of a piece of the rest. -/
import Derived.Deep.OwnRows
import Derived.Laws.CopyOwn
import Derived.Test.YtpnjddfnlaonoaaGreatDoorK11
import Derived.Test.YtpnjddfnlaonoaaGreatDoorK01
import Derived.Deep.RegionWith
import Derived.Maps.AppendAt
namespace Go.Proofs.YtpnjddfnlaonoaaGreatDoor
open Go.RowKit
namespace LM

set_option maxHeartbeats 400000 in
theorem bounded_big (A : Option Addr) (c : Nat) (xs : List Nat) (w : World) (hr : Rd w A xs) (hnc : xs.length ≤ c) (hc : c ≤ maxLen) (hb : 64 < (trim xs).length) :
    Calls Tryz.prog 177 #[.slice A xs.length c] w fun e w' => e = .returned (.tuple #[.slice none 0 0, .int .i64 11]) ∧ w = w' := by
  have hl := trim_length_le xs
  have hd : decide (64 < (trim xs).length) = true := decide_eq_true hb
  go_enter Tryz.func177, Tryz.ntmps177
  go_wp2_with fail
  refine (trimmed_any _ _ _ _ hr hnc hc).mono ?_; rintro e w' ⟨rfl, rfl⟩
  go_wp2_with fail
  refine (isBig_any _ _ _ _ (by omega)).mono ?_; rintro e w' ⟨rfl, rfl⟩
  go_wp2
  go_ret2
  exact ⟨rfl, rfl⟩

set_option maxHeartbeats 400000 in
theorem bounded_ok (A : Option Addr) (c : Nat) (xs : List Nat) (w : World) (hr : Rd w A xs) (hnc : xs.length ≤ c) (hc : c ≤ maxLen) (hb : (trim xs).length ≤ 64) :
    Calls Tryz.prog 177 #[.slice A xs.length c] w fun e w' => e = .returned (.tuple #[.slice A (trim xs).length c, .int .i64 0]) ∧ w = w' := by
  have hl := trim_length_le xs
  have hd : decide (64 < (trim xs).length) = false := decide_eq_false (by omega)
  go_enter Tryz.func177, Tryz.ntmps177
  go_wp2_with fail
  refine (trimmed_any _ _ _ _ hr hnc hc).mono ?_; rintro e w' ⟨rfl, rfl⟩
  go_wp2_with fail
  refine (isBig_any _ _ _ _ (by omega)).mono ?_; rintro e w' ⟨rfl, rfl⟩
  go_wp2
  go_ret2
  exact ⟨rfl, rfl⟩

theorem u32_info : (Tryz.prog.info? 99).map (fun i => (i.zero, i.size, i.bytes)) = some (some (.int .u32 0), 1, 4) := by kernel_rfl
theorem u32_size : (Tryz.prog.info? 99).map (·.size) = some 1 := by kernel_rfl

theorem addr_add (b off j : Nat) : Addr.add ⟨b, off, none⟩ j = ⟨b, off + j, none⟩ := by
  unfold Addr.add; split <;> simp_all

theorem made_zero (n : Nat) : (madeCells #[Value.int .u32 0] n) = (U (List.replicate n 0)).toArray := by
  apply Array.ext <;> simp [madeCells, U, Nat.mod_one]

set_option maxHeartbeats 400000 in
theorem widened_any (A : Option Addr) (c n : Nat) (xs : List Nat) (w : World) (hr : Rd w A xs) (hn : xs.length ≤ n) (hm : n ≤ 4096) :
    Calls Tryz.prog 153 #[.slice A xs.length c, .int .i64 (n : Int)] w fun e w' => e = .returned (.slice (some ⟨w.heap.size, 0, none⟩) n n) ∧ Blk w' w.heap.size (U (xs ++ List.replicate (n - xs.length) 0)) ∧ Below w.heap.size w w' := by
  have hmk := fun W => run_make_row' (P := Tryz.prog) 34 99 (.int .u32 0) 4 Tryz.underlying34 u32_info rfl .i64 .i64 n (by omega) (by omega) W
  simp only [made_zero] at hmk
  go_enter Tryz.func153, Tryz.ntmps153
  go_wp2_with (with_reducible refine wpList_copy_splice rfl (.tmp 8) (.tmp 9) 34 34 rfl 99 Tryz.underlying34 u32_size (some ⟨w.heap.size, 0, none⟩) A n n xs.length c rfl rfl w.heap.size 0 (U (List.replicate n 0)) 99 ?c1 (U xs) ?c2 ?c3 ?c4 ?c5 w.heap.size w ?c6 (Nat.le_refl _) ?_)
  case c1 => exact Blk.new w _
  case c2 => rw [U_len]; exact (Nat.min_eq_left hn).symm
  case c3 =>
    intro hl
    rw [U_len] at hl
    obtain ⟨b, off, rfl, hb, hc⟩ := hr hl
    refine ⟨⟨b, off, none⟩, rfl, fun j v hv => ?_⟩
    have hj : j < xs.length := by
      rcases Nat.lt_or_ge j xs.length with h | h
      · exact h
      · rw [List.getElem?_eq_none (by rw [U_len]; exact h)] at hv; cases hv
    rw [U_get _ _ hj] at hv
    rw [← hv, ← hc j hj]
    rw [addr_add]
    exact World.cell?_of_block (a := ⟨b, off + j, none⟩) (Below.heap_alloc w _ b hb)
  case c4 => simp [U_len]; omega
  case c5 =>
    intro v hv
    simp only [U, List.mem_map] at hv
    obtain ⟨x, _, rfl⟩ := hv
    rfl
  case c6 => exact (Below.refl _ _).alloc (Nat.le_refl _) _
  intro w1 hg1 hb1
  have H := Lib.hid hb1
  clear hb1
  go_wp2
  go_ret
  refine ⟨rfl, ?_, H.out⟩
  have h := hg1.out
  unfold Blk
  rw [h]
  congr 3
  simp only [splice, List.take_zero, List.nil_append, U_len, U_append, Nat.zero_add]
  congr 1
  simp [U]

end LM
end Go.Proofs.YtpnjddfnlaonoaaGreatDoor

namespace Go.Proofs.YtpnjddfnlaonoaaGreatDoor
open Go.RowKit
namespace LM

/-- where the loop stands when k limbs are done -/
def AtRel (w : World) (g : Nat) (pre post xs ys : List Nat) (n : Nat) (c i : Value) (wr : World) : Prop :=
  ∃ (k : Nat) (zs : List Nat) (cy : Nat), k ≤ ys.length ∧ i = .int .i64 (k : Int) ∧ c = .int .u64 (cy : Int) ∧ cy < 4294967296 ∧ zs.length = k ∧ Lm zs ∧
    val zs + 4294967296 ^ k * cy = val (xs.take k) + val (ys.take k) * n ∧ Blk wr g (U (pre ++ (zs ++ xs.drop k) ++ post)) ∧ w.grownBy wr (some g)

theorem blk_mid_cell {w : World} {g : Nat} {pre post zs xs : List Nat} {k : Nat} (h : Blk w g (U (pre ++ (zs ++ xs.drop k) ++ post))) (hz : zs.length = k) (hk : k < xs.length) :
    w.cell? ⟨g, pre.length + k, none⟩ = some (.int .u32 ((xs[k]?.getD 0 : Nat) : Int)) := by
  rw [h.cell, U_get _ _ (by simp; omega)]
  congr 3
  rw [List.append_assoc, List.getElem?_append_right (by omega), List.append_assoc, List.getElem?_append_right (by omega), List.getElem?_append_left (by simp; omega), List.getElem?_drop]
  congr 2; omega
theorem blk_mid_set {w : World} {g : Nat} {pre post zs xs : List Nat} {k : Nat} (h : Blk w g (U (pre ++ (zs ++ xs.drop k) ++ post))) (hz : zs.length = k) (hk : k < xs.length) (y : Nat) {v : Value} (hv : v = .int .u32 (y : Int)) :
    Blk (w.setCell ⟨g, pre.length + k, none⟩ v) g (U (pre ++ ((zs ++ [y]) ++ xs.drop (k + 1)) ++ post)) := by
  subst hv
  have h1 := h.set_ (pre.length + k) (.int .u32 (y : Int))
  rw [drop_cons_get xs k hk] at h1
  subst hz
  rw [set_mid] at h1
  simpa using h1

set_option maxHeartbeats 400000 in
theorem addTimes_any (g cap : Nat) (pre xs post : List Nat) (B : Option Addr) (cb : Nat) (ys : List Nat) (n : Nat) (w : World)
    (hg : Blk w g (U (pre ++ xs ++ post))) (hb : Rd w B ys) (hBg : 0 < ys.length → Off B g) (hl : ys.length ≤ xs.length) (hx : Lm xs) (hy : Lm ys) (hn : n < 4294967296) (hxl : xs.length ≤ 4096) :
    Calls Tryz.prog 205 #[.slice (some ⟨g, pre.length, none⟩) xs.length cap, .slice B ys.length cb, .int .u32 (n : Int)] w fun e w' =>
      ∃ (zs : List Nat) (c : Nat), e = .returned (.int .u32 (c : Int)) ∧ c < 4294967296 ∧ zs.length = ys.length ∧ Lm zs ∧ val zs + 4294967296 ^ ys.length * c = val (xs.take ys.length) + val ys * n ∧
        Blk w' g (U (pre ++ (zs ++ xs.drop ys.length) ++ post)) ∧ w.grownBy w' (some g) := by
  go_enter Tryz.func205, Tryz.ntmps205
  go_wp2
  go_loopw [7, 11] (fun c i wr => AtRel w g pre post xs ys n c i wr) (fun _ i _ => ys.length - (intOf i).toNat)
  case atStart => exact ⟨0, [], 0, Nat.zero_le _, rfl, rfl, by decide, rfl, Lm.nil, by simp [val], by simpa using hg, only_refl _ _⟩
  case round =>
    obtain ⟨k, zs, cy, hk, rfl, rfl, hcy, hzl, hzL, hv, hB, hG⟩ := hrel
    have HV := Lib.hid hv
    have HZ := Lib.hid hzl
    clear hv
    by_cases hlt : k < ys.length
    · have hc1 := blk_mid_cell hB hzl (by omega : k < xs.length)
      have hf1 := hB.frozen (pre.length + k)
      obtain ⟨b2, o2, rfl, _, hc2⟩ := (hb.grownG hG hBg).at_ hlt
      have hxk := hx.get k
      have hyk := hy.get k
      have hp : (((ys[k]?.getD 0 : Nat) : Int) * (n : Int)) = ((ys[k]?.getD 0 * n : Nat) : Int) := by simp
      have hpl := prod_le hyk hn
      have hst := addTimes_step (xs := xs) (ys := ys) (n := n) hzl HV.out
      generalize hxe : xs[k]?.getD 0 = x at *
      generalize hye : ys[k]?.getD 0 = y at *
      generalize hpe : y * n = p at *
      have HST := Lib.hid hst
      clear hst hxe hye hpe hzl
      go_wp2_with fail
      go_quiet (fail)
      go_wp2
      go_roundw
      case rel =>
        refine ⟨k + 1, zs ++ [(cy + (p + x)) % 4294967296], (cy + (p + x)) / 4294967296, by omega, by go_num, ?_, carry_lt hcy hpl hxk, by simp [HZ.out], hzL.snoc (Nat.mod_lt _ (by decide)), HST.out, ?_, ?_⟩
        · congr 1
        · exact blk_mid_set (hB.drewN _) HZ.out (by omega) _ (by congr 1)
        · exact only_setCell (only_drewN hG _) (.inl rfl) _
      case measure => simp [intOf]; omega
    · go_wp2
      go_ret
      obtain rfl : k = ys.length := by omega
      refine ⟨zs, cy, rfl, hcy, HZ.out, hzL, ?_, hB, hG⟩
      have h := HV.out
      rwa [List.take_length (l := ys)] at h

end LM
end Go.Proofs.YtpnjddfnlaonoaaGreatDoor

namespace Go.Proofs.YtpnjddfnlaonoaaGreatDoor
open Go.RowKit
namespace LM

theorem at_nat (A : Option Addr) (c : Nat) (xs : List Nat) (k y : Nat) (w : World) (hr : Rd w A xs) (hk : k ≤ 4096) (hy : xs[k]?.getD 0 = y) :
    Calls Tryz.prog 206 #[.slice A xs.length c, .int .i64 (k : Int)] w fun e w' => e = .returned (.int .u32 (y : Int)) ∧ w = w' := by
  have h := at_any A c xs (k : Int) w hr (by omega) (by omega)
  rw [atI_nat, hy] at h
  exact h

end LM
end Go.Proofs.YtpnjddfnlaonoaaGreatDoor

namespace Go.Proofs.YtpnjddfnlaonoaaGreatDoor
open Go.RowKit
namespace LM

end LM
end Go.Proofs.YtpnjddfnlaonoaaGreatDoor

namespace Go.Proofs.YtpnjddfnlaonoaaGreatDoor
open Go.RowKit
namespace LM

/-- an owned row of limbs, taken apart -/
theorem own_cases {w : World} {base : Nat} {v : Value} {xs : List Nat} (h : w.ownsRow base 99 1 v xs.length (U xs)) :
    (v = .slice none 0 0 ∧ xs = []) ∨ ∃ g cap rest, v = .slice (some ⟨g, 0, none⟩) xs.length cap ∧ base ≤ g ∧ Blk w g (U xs ++ rest) ∧ xs.length ≤ cap ∧ cap ≤ maxLen ∧ (U xs ++ rest).length = cap := by
  obtain ⟨_, h | ⟨g, cap, cur, rfl, hb, hh, hn, hc, hs, ht⟩⟩ := h
  · exact .inl ⟨h.1, List.eq_nil_of_length_eq_zero h.2⟩
  · refine .inr ⟨g, cap, cur.toList.drop xs.length, rfl, hb, ?_, hn, hc, ?_⟩
    · unfold Blk
      rw [← ht, Nat.mul_one, List.take_append_drop]
      exact hh
    · rw [← ht, Nat.mul_one, List.take_append_drop]
      simpa using hs
theorem u_one (xs : List Nat) : ∀ v ∈ U xs, v.oneCell' = true := by
  intro v hv
  simp only [U, List.mem_map] at hv
  obtain ⟨x, _, rfl⟩ := hv
  rfl

end LM
end Go.Proofs.YtpnjddfnlaonoaaGreatDoor

namespace Go.Proofs.YtpnjddfnlaonoaaGreatDoor
open Go.RowKit
namespace LM

end LM
end Go.Proofs.YtpnjddfnlaonoaaGreatDoor

namespace Go.Proofs.YtpnjddfnlaonoaaGreatDoor
open Go.RowKit
namespace LM

end LM
end Go.Proofs.YtpnjddfnlaonoaaGreatDoor

namespace Go.Proofs.YtpnjddfnlaonoaaGreatDoor
open Go.RowKit
namespace LM

end LM
end Go.Proofs.YtpnjddfnlaonoaaGreatDoor
