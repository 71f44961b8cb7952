/- Walks of package limb: takeOut: as often as it is in it, the divisor is taken out of a piece of the rest. -/
import Derived.Deep.OwnRows
import Derived.Laws.CopyOwn
import Derived.Test.YtpnjddfnlaonoaaGreatDoorL03
import Derived.Test.YtpnjddfnlaonoaaGreatDoorL01
import Derived.Deep.RegionWith
import Derived.Maps.AppendAt
namespace Go.Proofs.YtpnjddfnlaonoaaGreatDoor
open Go.RowKit
namespace LM

set_option maxHeartbeats 400000 in
theorem bounded_big (A : Option Addr) (c : Nat) (xs : List Nat) (w : World) (hr : Rd w A xs) (hnc : xs.length ≤ c) (hc : c ≤ maxLen) (hb : 64 < (trim xs).length) :
    Calls Tryz.prog 177 #[.slice A xs.length c] w fun e w' => e = .returned (.tuple #[.slice none 0 0, .int .i64 11]) ∧ w = w' := by
  have hl := trim_length_le xs
  have hd : decide (64 < (trim xs).length) = true := decide_eq_true hb
  go_enter Tryz.func177, Tryz.ntmps177
  go_wp2_with fail
  refine (trimmed_any _ _ _ _ hr hnc hc).mono ?_; rintro e w' ⟨rfl, rfl⟩
  go_wp2_with fail
  refine (isBig_any _ _ _ _ (by omega)).mono ?_; rintro e w' ⟨rfl, rfl⟩
  go_wp2
  go_ret2
  exact ⟨rfl, rfl⟩

set_option maxHeartbeats 400000 in
theorem bounded_ok (A : Option Addr) (c : Nat) (xs : List Nat) (w : World) (hr : Rd w A xs) (hnc : xs.length ≤ c) (hc : c ≤ maxLen) (hb : (trim xs).length ≤ 64) :
    Calls Tryz.prog 177 #[.slice A xs.length c] w fun e w' => e = .returned (.tuple #[.slice A (trim xs).length c, .int .i64 0]) ∧ w = w' := by
  have hl := trim_length_le xs
  have hd : decide (64 < (trim xs).length) = false := decide_eq_false (by omega)
  go_enter Tryz.func177, Tryz.ntmps177
  go_wp2_with fail
  refine (trimmed_any _ _ _ _ hr hnc hc).mono ?_; rintro e w' ⟨rfl, rfl⟩
  go_wp2_with fail
  refine (isBig_any _ _ _ _ (by omega)).mono ?_; rintro e w' ⟨rfl, rfl⟩
  go_wp2
  go_ret2
  exact ⟨rfl, rfl⟩

theorem u32_info : (Tryz.prog.info? 99).map (fun i => (i.zero, i.size, i.bytes)) = some (some (.int .u32 0), 1, 4) := by kernel_rfl
theorem u32_size : (Tryz.prog.info? 99).map (·.size) = some 1 := by kernel_rfl

theorem addr_add (b off j : Nat) : Addr.add ⟨b, off, none⟩ j = ⟨b, off + j, none⟩ := by
  unfold Addr.add; split <;> simp_all

theorem made_zero (n : Nat) : (madeCells #[Value.int .u32 0] n) = (U (List.replicate n 0)).toArray := by
  apply Array.ext <;> simp [madeCells, U, Nat.mod_one]

set_option maxHeartbeats 400000 in
theorem widened_any (A : Option Addr) (c n : Nat) (xs : List Nat) (w : World) (hr : Rd w A xs) (hn : xs.length ≤ n) (hm : n ≤ 4096) :
    Calls Tryz.prog 153 #[.slice A xs.length c, .int .i64 (n : Int)] w fun e w' => e = .returned (.slice (some ⟨w.heap.size, 0, none⟩) n n) ∧ Blk w' w.heap.size (U (xs ++ List.replicate (n - xs.length) 0)) ∧ Below w.heap.size w w' := by
  have hmk := fun W => run_make_row' (P := Tryz.prog) 34 99 (.int .u32 0) 4 Tryz.underlying34 u32_info rfl .i64 .i64 n (by omega) (by omega) W
  simp only [made_zero] at hmk
  go_enter Tryz.func153, Tryz.ntmps153
  go_wp2_with (with_reducible refine wpList_copy_splice rfl (.tmp 8) (.tmp 9) 34 34 rfl 99 Tryz.underlying34 u32_size (some ⟨w.heap.size, 0, none⟩) A n n xs.length c rfl rfl w.heap.size 0 (U (List.replicate n 0)) 99 ?c1 (U xs) ?c2 ?c3 ?c4 ?c5 w.heap.size w ?c6 (Nat.le_refl _) ?_)
  case c1 => exact Blk.new w _
  case c2 => rw [U_len]; exact (Nat.min_eq_left hn).symm
  case c3 =>
    intro hl
    rw [U_len] at hl
    obtain ⟨b, off, rfl, hb, hc⟩ := hr hl
    refine ⟨⟨b, off, none⟩, rfl, fun j v hv => ?_⟩
    have hj : j < xs.length := by
      rcases Nat.lt_or_ge j xs.length with h | h
      · exact h
      · rw [List.getElem?_eq_none (by rw [U_len]; exact h)] at hv; cases hv
    rw [U_get _ _ hj] at hv
    rw [← hv, ← hc j hj]
    rw [addr_add]
    exact World.cell?_of_block (a := ⟨b, off + j, none⟩) (Below.heap_alloc w _ b hb)
  case c4 => simp [U_len]; omega
  case c5 =>
    intro v hv
    simp only [U, List.mem_map] at hv
    obtain ⟨x, _, rfl⟩ := hv
    rfl
  case c6 => exact (Below.refl _ _).alloc (Nat.le_refl _) _
  intro w1 hg1 hb1
  have H := Lib.hid hb1
  clear hb1
  go_wp2
  go_ret
  refine ⟨rfl, ?_, H.out⟩
  have h := hg1.out
  unfold Blk
  rw [h]
  congr 3
  simp only [splice, List.take_zero, List.nil_append, U_len, U_append, Nat.zero_add]
  congr 1
  simp [U]

def sumLo (x y z : Nat) : Nat := (x + y + z) % 4294967296
def sumHi (x y z : Nat) : Nat := (x + y + z) / 4294967296
def difLo (x y z : Nat) : Nat := (x + 4294967296 - y - z) % 4294967296
def difHi (x y z : Nat) : Nat := 1 - (x + 4294967296 - y - z) / 4294967296

set_option maxHeartbeats 400000 in
theorem add32_any (x y z : Nat) (w : World) (hx : x < 4294967296) (hy : y < 4294967296) (hz : z ≤ 1) :
    Calls Tryz.prog 295 #[.int .u32 (x : Int), .int .u32 (y : Int), .int .u32 (z : Int)] w fun e w' => e = .returned (.tuple #[.int .u32 ((sumLo x y z : Nat) : Int), .int .u32 ((sumHi x y z : Nat) : Int)]) ∧ w = w' := by
  go_enter Tryz.func295, Tryz.ntmps295
  go_wp2
  go_ret2
  refine ⟨?_, rfl⟩
  rw [show ((sumLo x y z : Nat) : Int) = ((x : Int) + y + z) % 4294967296 from by unfold sumLo; omega, show ((sumHi x y z : Nat) : Int) = ((x : Int) + y + z) / 4294967296 from by unfold sumHi; omega]
  rfl

set_option maxHeartbeats 400000 in
theorem sub32_any (x y z : Nat) (w : World) (hx : x < 4294967296) (hy : y < 4294967296) (hz : z ≤ 1) :
    Calls Tryz.prog 238 #[.int .u32 (x : Int), .int .u32 (y : Int), .int .u32 (z : Int)] w fun e w' => e = .returned (.tuple #[.int .u32 ((difLo x y z : Nat) : Int), .int .u32 ((difHi x y z : Nat) : Int)]) ∧ w = w' := by
  have h1 := Lib.hid (borrow32 x y z hx hy hz)
  go_enter Tryz.func238, Tryz.ntmps238
  go_wp2
  all_goals
    go_ret2
    refine ⟨?_, rfl⟩
    rw [show ((difHi x y z : Nat) : Int) = _ from h1.out.symm, show ((difLo x y z : Nat) : Int) = ((x : Int) - y - z) % 4294967296 from by unfold difLo; omega]
    rfl

end LM
end Go.Proofs.YtpnjddfnlaonoaaGreatDoor

namespace Go.Proofs.YtpnjddfnlaonoaaGreatDoor
open Go.RowKit
namespace LM

/-- where the loop stands when k limbs are done -/
def AtRel (w : World) (g : Nat) (pre post xs ys : List Nat) (n : Nat) (c i : Value) (wr : World) : Prop :=
  ∃ (k : Nat) (zs : List Nat) (cy : Nat), k ≤ ys.length ∧ i = .int .i64 (k : Int) ∧ c = .int .u64 (cy : Int) ∧ cy < 4294967296 ∧ zs.length = k ∧ Lm zs ∧
    val zs + 4294967296 ^ k * cy = val (xs.take k) + val (ys.take k) * n ∧ Blk wr g (U (pre ++ (zs ++ xs.drop k) ++ post)) ∧ w.grownBy wr (some g)

theorem blk_mid_cell {w : World} {g : Nat} {pre post zs xs : List Nat} {k : Nat} (h : Blk w g (U (pre ++ (zs ++ xs.drop k) ++ post))) (hz : zs.length = k) (hk : k < xs.length) :
    w.cell? ⟨g, pre.length + k, none⟩ = some (.int .u32 ((xs[k]?.getD 0 : Nat) : Int)) := by
  rw [h.cell, U_get _ _ (by simp; omega)]
  congr 3
  rw [List.append_assoc, List.getElem?_append_right (by omega), List.append_assoc, List.getElem?_append_right (by omega), List.getElem?_append_left (by simp; omega), List.getElem?_drop]
  congr 2; omega
theorem blk_mid_set {w : World} {g : Nat} {pre post zs xs : List Nat} {k : Nat} (h : Blk w g (U (pre ++ (zs ++ xs.drop k) ++ post))) (hz : zs.length = k) (hk : k < xs.length) (y : Nat) {v : Value} (hv : v = .int .u32 (y : Int)) :
    Blk (w.setCell ⟨g, pre.length + k, none⟩ v) g (U (pre ++ ((zs ++ [y]) ++ xs.drop (k + 1)) ++ post)) := by
  subst hv
  have h1 := h.set_ (pre.length + k) (.int .u32 (y : Int))
  rw [drop_cons_get xs k hk] at h1
  subst hz
  rw [set_mid] at h1
  simpa using h1

set_option maxHeartbeats 400000 in
theorem addTimes_any (g cap : Nat) (pre xs post : List Nat) (B : Option Addr) (cb : Nat) (ys : List Nat) (n : Nat) (w : World)
    (hg : Blk w g (U (pre ++ xs ++ post))) (hb : Rd w B ys) (hBg : 0 < ys.length → Off B g) (hl : ys.length ≤ xs.length) (hx : Lm xs) (hy : Lm ys) (hn : n < 4294967296) (hxl : xs.length ≤ 4096) :
    Calls Tryz.prog 205 #[.slice (some ⟨g, pre.length, none⟩) xs.length cap, .slice B ys.length cb, .int .u32 (n : Int)] w fun e w' =>
      ∃ (zs : List Nat) (c : Nat), e = .returned (.int .u32 (c : Int)) ∧ c < 4294967296 ∧ zs.length = ys.length ∧ Lm zs ∧ val zs + 4294967296 ^ ys.length * c = val (xs.take ys.length) + val ys * n ∧
        Blk w' g (U (pre ++ (zs ++ xs.drop ys.length) ++ post)) ∧ w.grownBy w' (some g) := by
  go_enter Tryz.func205, Tryz.ntmps205
  go_wp2
  go_loopw [7, 11] (fun c i wr => AtRel w g pre post xs ys n c i wr) (fun _ i _ => ys.length - (intOf i).toNat)
  case atStart => exact ⟨0, [], 0, Nat.zero_le _, rfl, rfl, by decide, rfl, Lm.nil, by simp [val], by simpa using hg, only_refl _ _⟩
  case round =>
    obtain ⟨k, zs, cy, hk, rfl, rfl, hcy, hzl, hzL, hv, hB, hG⟩ := hrel
    have HV := Lib.hid hv
    have HZ := Lib.hid hzl
    clear hv
    by_cases hlt : k < ys.length
    · have hc1 := blk_mid_cell hB hzl (by omega : k < xs.length)
      have hf1 := hB.frozen (pre.length + k)
      obtain ⟨b2, o2, rfl, _, hc2⟩ := (hb.grownG hG hBg).at_ hlt
      have hxk := hx.get k
      have hyk := hy.get k
      have hp : (((ys[k]?.getD 0 : Nat) : Int) * (n : Int)) = ((ys[k]?.getD 0 * n : Nat) : Int) := by simp
      have hpl := prod_le hyk hn
      have hst := addTimes_step (xs := xs) (ys := ys) (n := n) hzl HV.out
      generalize hxe : xs[k]?.getD 0 = x at *
      generalize hye : ys[k]?.getD 0 = y at *
      generalize hpe : y * n = p at *
      have HST := Lib.hid hst
      clear hst hxe hye hpe hzl
      go_wp2_with fail
      go_quiet (fail)
      go_wp2
      go_roundw
      case rel =>
        refine ⟨k + 1, zs ++ [(cy + (p + x)) % 4294967296], (cy + (p + x)) / 4294967296, by omega, by go_num, ?_, carry_lt hcy hpl hxk, by simp [HZ.out], hzL.snoc (Nat.mod_lt _ (by decide)), HST.out, ?_, ?_⟩
        · congr 1
        · exact blk_mid_set (hB.drewN _) HZ.out (by omega) _ (by congr 1)
        · exact only_setCell (only_drewN hG _) (.inl rfl) _
      case measure => simp [intOf]; omega
    · go_wp2
      go_ret
      obtain rfl : k = ys.length := by omega
      refine ⟨zs, cy, rfl, hcy, HZ.out, hzL, ?_, hB, hG⟩
      have h := HV.out
      rwa [List.take_length (l := ys)] at h

end LM
end Go.Proofs.YtpnjddfnlaonoaaGreatDoor

namespace Go.Proofs.YtpnjddfnlaonoaaGreatDoor
open Go.RowKit
namespace LM

theorem at_nat (A : Option Addr) (c : Nat) (xs : List Nat) (k y : Nat) (w : World) (hr : Rd w A xs) (hk : k ≤ 4096) (hy : xs[k]?.getD 0 = y) :
    Calls Tryz.prog 206 #[.slice A xs.length c, .int .i64 (k : Int)] w fun e w' => e = .returned (.int .u32 (y : Int)) ∧ w = w' := by
  have h := at_any A c xs (k : Int) w hr (by omega) (by omega)
  rw [atI_nat, hy] at h
  exact h

/-- where the loop stands when k limbs are done -/
def StRel (w : World) (g : Nat) (pre post xs ys : List Nat) (n : Nat) (c b i : Value) (wr : World) : Prop :=
  ∃ (k : Nat) (zs : List Nat) (cy br : Nat), k ≤ xs.length ∧ i = .int .i64 (k : Int) ∧ c = .int .u64 (cy : Int) ∧ b = .int .u32 (br : Int) ∧ cy < 4294967296 ∧ br ≤ 1 ∧ zs.length = k ∧ Lm zs ∧
    (ys.length < k → cy = 0) ∧
    val zs + val (ys.take k) * n = val (xs.take k) + 4294967296 ^ k * (cy + br) ∧ Blk wr g (U (pre ++ (zs ++ xs.drop k) ++ post)) ∧ w.grownBy wr (some g)

theorem difHi_le (x y z : Nat) : difHi x y z ≤ 1 := by unfold difHi; omega
theorem difLo_lt (x y z : Nat) : difLo x y z < 4294967296 := Nat.mod_lt _ (by decide)
theorem carry2_lt {c p : Nat} (hc : c < 4294967296) (hp : p ≤ 18446744065119617025) : (c + p) / 4294967296 < 4294967296 := by omega

set_option maxHeartbeats 400000 in
theorem subTimes_any (g cap : Nat) (pre xs post : List Nat) (B : Option Addr) (cb : Nat) (ys : List Nat) (n : Nat) (w : World)
    (hg : Blk w g (U (pre ++ xs ++ post))) (hb : Rd w B ys) (hBg : 0 < ys.length → Off B g) (hl : ys.length < xs.length) (hx : Lm xs) (hy : Lm ys) (hn : n < 4294967296) (hxl : xs.length ≤ 4096) :
    Calls Tryz.prog 298 #[.slice (some ⟨g, pre.length, none⟩) xs.length cap, .slice B ys.length cb, .int .u32 (n : Int)] w fun e w' =>
      ∃ (zs : List Nat) (br : Nat), e = .returned (.int .u32 (br : Int)) ∧ br ≤ 1 ∧ zs.length = xs.length ∧ Lm zs ∧ val zs + val ys * n = val xs + 4294967296 ^ xs.length * br ∧
        Blk w' g (U (pre ++ zs ++ post)) ∧ w.grownBy w' (some g) := by
  go_enter Tryz.func298, Tryz.ntmps298
  go_wp2
  go_loopw [7, 8, 12] (fun c b i wr => StRel w g pre post xs ys n c b i wr) (fun _ _ i _ => xs.length - (intOf i).toNat)
  case atStart => exact ⟨0, [], 0, 0, Nat.zero_le _, rfl, rfl, rfl, by decide, by decide, rfl, Lm.nil, fun _ => rfl, by simp [val], by simpa using hg, only_refl _ _⟩
  case round =>
    obtain ⟨k, zs, cy, br, hk, rfl, rfl, rfl, hcy, hbr, hzl, hzL, h0, hv, hB, hG⟩ := hrel
    have HV := Lib.hid hv
    have HZ := Lib.hid hzl
    have H0 := Lib.hid h0
    clear hv h0
    by_cases hlt : k < xs.length
    · have hc1 := blk_mid_cell hB hzl (by omega : k < xs.length)
      have hf1 := hB.frozen (pre.length + k)
      have hb2 := hb.grownG hG hBg
      have hxk := hx.get k
      have hyk := hy.get k
      have hp : (((ys[k]?.getD 0 : Nat) : Int) * (n : Int)) = ((ys[k]?.getD 0 * n : Nat) : Int) := by simp
      have hpl := prod_le hyk hn
      have hy0 : ys.length < k + 1 → ys[k]?.getD 0 = 0 := fun h => by rw [List.getElem?_eq_none (by omega)]; rfl
      have HY0 := Lib.hid hy0
      have hst := subTimes_step (xs := xs) (ys := ys) (n := n) (cy := cy) (br := br) (d := difLo (xs[k]?.getD 0) ((cy + ys[k]?.getD 0 * n) % 4294967296) br) (b' := difHi (xs[k]?.getD 0) ((cy + ys[k]?.getD 0 * n) % 4294967296) br) hzl HV.out (dif_step hxk (Nat.mod_lt _ (by decide)) hbr).1
      clear hy0
      generalize hxe : xs[k]?.getD 0 = x at *
      generalize hye : ys[k]?.getD 0 = y at *
      generalize hpe : y * n = p at *
      have HST := Lib.hid hst
      have HXE := Lib.hid hxe
      have HYE := Lib.hid hye
      have HPE := Lib.hid hpe
      clear hst hxe hye hpe hzl
      go_wp2_with fail
      refine (at_nat B cb ys k y _ hb2 (by omega) HYE.out).mono ?_; rintro e w1 ⟨rfl, rfl⟩
      go_wp2_with fail
      rw [show ((cy : Int) + (p : Int)) % 4294967296 = (((cy + p) % 4294967296 : Nat) : Int) from by omega]
      refine (sub32_any _ _ _ _ hxk (Nat.mod_lt _ (by decide)) hbr).mono ?_; rintro e w1 ⟨rfl, rfl⟩
      go_wp2
      go_roundw
      case rel =>
        refine ⟨k + 1, zs ++ [difLo x ((cy + p) % 4294967296) br], (cy + p) / 4294967296, difHi x ((cy + p) % 4294967296) br, by omega, by go_num, by congr 1, rfl, carry2_lt hcy hpl, difHi_le _ _ _, by simp [HZ.out], hzL.snoc (difLo_lt _ _ _), ?_, HST.out, ?_, ?_⟩
        · intro h
          have h1 := HY0.out h
          have h2 := HPE.out
          rw [h1, Nat.zero_mul] at h2
          subst h2
          omega
        · exact blk_mid_set hB HZ.out (by omega) _ rfl
        · exact only_setCell hG (.inl rfl) _
      case measure => simp [intOf]; omega
    · go_wp2
      go_ret
      obtain rfl : k = xs.length := by omega
      have h0 := H0.out hl
      subst h0
      refine ⟨zs, br, rfl, hbr, HZ.out, hzL, ?_, by simpa using hB, hG⟩
      have h := HV.out
      rw [List.take_of_length_le (by omega : ys.length ≤ xs.length), List.take_length (l := xs), Nat.zero_add] at h
      exact h

end LM
end Go.Proofs.YtpnjddfnlaonoaaGreatDoor

namespace Go.Proofs.YtpnjddfnlaonoaaGreatDoor
open Go.RowKit
namespace LM

/-- where the loop stands when k limbs are done -/
def AdRel (w : World) (g : Nat) (pre post xs ys : List Nat) (c i : Value) (wr : World) : Prop :=
  ∃ (k : Nat) (zs : List Nat) (cy : Nat), k ≤ xs.length ∧ i = .int .i64 (k : Int) ∧ c = .int .u32 (cy : Int) ∧ cy ≤ 1 ∧ zs.length = k ∧ Lm zs ∧
    val zs + 4294967296 ^ k * cy = val (xs.take k) + val (ys.take k) ∧ Blk wr g (U (pre ++ (zs ++ xs.drop k) ++ post)) ∧ w.grownBy wr (some g)

theorem sumHi_le {x y z : Nat} (hx : x < 4294967296) (hy : y < 4294967296) (hz : z ≤ 1) : sumHi x y z ≤ 1 := by unfold sumHi; omega
theorem sumLo_lt' (x y z : Nat) : sumLo x y z < 4294967296 := Nat.mod_lt _ (by decide)

set_option maxHeartbeats 400000 in
theorem addTo_any (g cap : Nat) (pre xs post : List Nat) (B : Option Addr) (cb : Nat) (ys : List Nat) (w : World)
    (hg : Blk w g (U (pre ++ xs ++ post))) (hb : Rd w B ys) (hBg : 0 < ys.length → Off B g) (hl : ys.length ≤ xs.length) (hx : Lm xs) (hy : Lm ys) (hxl : xs.length ≤ 4096) :
    Calls Tryz.prog 237 #[.slice (some ⟨g, pre.length, none⟩) xs.length cap, .slice B ys.length cb] w fun e w' =>
      ∃ (zs : List Nat) (c : Nat), e = .returned (.int .u32 (c : Int)) ∧ c ≤ 1 ∧ zs.length = xs.length ∧ Lm zs ∧ val zs + 4294967296 ^ xs.length * c = val xs + val ys ∧
        Blk w' g (U (pre ++ zs ++ post)) ∧ w.grownBy w' (some g) := by
  go_enter Tryz.func237, Tryz.ntmps237
  go_wp2
  go_loopw [5, 9] (fun c i wr => AdRel w g pre post xs ys c i wr) (fun _ i _ => xs.length - (intOf i).toNat)
  case atStart => exact ⟨0, [], 0, Nat.zero_le _, rfl, rfl, by decide, rfl, Lm.nil, by simp [val], by simpa using hg, only_refl _ _⟩
  case round =>
    obtain ⟨k, zs, cy, hk, rfl, rfl, hcy, hzl, hzL, hv, hB, hG⟩ := hrel
    have HV := Lib.hid hv
    have HZ := Lib.hid hzl
    clear hv
    by_cases hlt : k < xs.length
    · have hc1 := blk_mid_cell hB hzl (by omega : k < xs.length)
      have hf1 := hB.frozen (pre.length + k)
      have hb2 := hb.grownG hG hBg
      have hxk := hx.get k
      have hyk := hy.get k
      have hst := addTo_step (xs := xs) (ys := ys) hzl HV.out
      generalize hxe : xs[k]?.getD 0 = x at *
      generalize hye : ys[k]?.getD 0 = y at *
      have HST := Lib.hid hst
      have HXE := Lib.hid hxe
      have HYE := Lib.hid hye
      clear hst hxe hye hzl
      go_wp2_with fail
      go_region_with (first | (go_at_call 206; refine (at_nat B cb ys k y _ hb2.drew (by omega) HYE.out).mono ?_; rintro e w1 ⟨rfl, rfl⟩) | (go_at_call 295; refine (add32_any _ _ _ _ hxk hyk hcy).mono ?_; rintro e w1 ⟨rfl, rfl⟩))
      all_goals
        go_wp2
        go_roundw
        case rel =>
          refine ⟨k + 1, zs ++ [sumLo x y cy], sumHi x y cy, by omega, by go_num, rfl, sumHi_le hxk hyk hcy, by simp [HZ.out], hzL.snoc (sumLo_lt' _ _ _), HST.out, ?_, ?_⟩
          · exact blk_mid_set (w := wr.drew) hB.drew HZ.out (by omega) _ rfl
          · exact only_setCell (only_drew hG) (.inl rfl) _
        case measure => simp [intOf]; omega
    · go_wp2
      go_ret
      obtain rfl : k = xs.length := by omega
      refine ⟨zs, cy, rfl, hcy, HZ.out, hzL, ?_, by simpa using hB, hG⟩
      have h := HV.out
      rw [List.take_of_length_le (by omega : ys.length ≤ xs.length), List.take_length (l := xs)] at h
      exact h

end LM
end Go.Proofs.YtpnjddfnlaonoaaGreatDoor

namespace Go.Proofs.YtpnjddfnlaonoaaGreatDoor
open Go.RowKit
namespace LM

/-- where the loop stands when k limbs are done -/
def TpRel (w : World) (g : Nat) (xs : List Nat) (rest : List Value) (n m : Nat) (c i : Value) (wr : World) : Prop :=
  ∃ (k : Nat) (zs : List Nat) (cy : Nat), k ≤ xs.length ∧ i = .int .i64 (k : Int) ∧ c = .int .u64 (cy : Int) ∧ cy < 4294967296 ∧ zs.length = k ∧ Lm zs ∧
    val zs + 4294967296 ^ k * cy = val (xs.take k) * n + m ∧ Blk wr g (U (zs ++ xs.drop k) ++ rest) ∧ w.grownBy wr (some g)

theorem blk_cell0 {w : World} {g : Nat} {rest : List Value} {zs xs : List Nat} {k : Nat} (h : Blk w g (U (zs ++ xs.drop k) ++ rest)) (hz : zs.length = k) (hk : k < xs.length) :
    w.cell? ⟨g, k, none⟩ = some (.int .u32 ((xs[k]?.getD 0 : Nat) : Int)) := by
  rw [h.cell, List.getElem?_append_left (by rw [U_len]; simp; omega), U_get _ _ (by simp; omega)]
  congr 3
  rw [List.getElem?_append_right (by omega), List.getElem?_drop]
  congr 2; omega
theorem blk_set0 {w : World} {g : Nat} {rest : List Value} {zs xs : List Nat} {k : Nat} (h : Blk w g (U (zs ++ xs.drop k) ++ rest)) (hz : zs.length = k) (hk : k < xs.length) (y : Nat) {v : Value} (hv : v = .int .u32 (y : Int)) :
    Blk (w.setCell ⟨g, k, none⟩ v) g (U ((zs ++ [y]) ++ xs.drop (k + 1)) ++ rest) := by
  subst hv
  have h1 := h.set_ k (.int .u32 (y : Int))
  rw [drop_cons_get xs k hk, List.set_append_left _ _ (by rw [U_len]; simp; omega)] at h1
  subst hz
  have e := set_mid [] zs (xs.drop (zs.length + 1)) [] (xs[zs.length]?.getD 0) y
  simp only [List.nil_append, List.append_nil, List.length_nil, Nat.zero_add] at e
  rw [e] at h1
  simpa using h1

/-- an owned row of limbs, taken apart -/
theorem own_cases {w : World} {base : Nat} {v : Value} {xs : List Nat} (h : w.ownsRow base 99 1 v xs.length (U xs)) :
    (v = .slice none 0 0 ∧ xs = []) ∨ ∃ g cap rest, v = .slice (some ⟨g, 0, none⟩) xs.length cap ∧ base ≤ g ∧ Blk w g (U xs ++ rest) ∧ xs.length ≤ cap ∧ cap ≤ maxLen ∧ (U xs ++ rest).length = cap := by
  obtain ⟨_, h | ⟨g, cap, cur, rfl, hb, hh, hn, hc, hs, ht⟩⟩ := h
  · exact .inl ⟨h.1, List.eq_nil_of_length_eq_zero h.2⟩
  · refine .inr ⟨g, cap, cur.toList.drop xs.length, rfl, hb, ?_, hn, hc, ?_⟩
    · unfold Blk
      rw [← ht, Nat.mul_one, List.take_append_drop]
      exact hh
    · rw [← ht, Nat.mul_one, List.take_append_drop]
      simpa using hs
theorem own_of_blk {w : World} {base g cap : Nat} {xs : List Nat} {rest : List Value} (h : Blk w g (U xs ++ rest)) (hb : base ≤ g) (hc : cap ≤ maxLen) (hl : (U xs ++ rest).length = cap) :
    w.ownsRow base 99 1 (.slice (some ⟨g, 0, none⟩) xs.length cap) xs.length (U xs) := by
  refine ⟨by simp [U_len], .inr ⟨g, cap, (U xs ++ rest).toArray, rfl, hb, h, ?_, hc, by simpa using hl, ?_⟩⟩
  · rw [← hl]; simp [U_len]
  · simp [U_len]
theorem u_one (xs : List Nat) : ∀ v ∈ U xs, v.oneCell' = true := by
  intro v hv
  simp only [U, List.mem_map] at hv
  obtain ⟨x, _, rfl⟩ := hv
  rfl

set_option maxRecDepth 100000 in
set_option maxHeartbeats 400000 in
theorem timesPlus_any (base : Nat) (v : Value) (xs : List Nat) (n m : Nat) (w : World) (ho : w.ownsRow base 99 1 v xs.length (U xs)) (hx : Lm xs) (hn : n < 4294967296) (hm : m < 4294967296) (hl : xs.length ≤ 4000) (hbase : base ≤ w.heap.size) :
    Calls Tryz.prog 176 #[v, .int .u32 (n : Int), .int .u32 (m : Int)] w fun e w' =>
      ∃ (v' : Value) (zs : List Nat), e = .returned v' ∧ w'.ownsRow base 99 1 v' zs.length (U zs) ∧ Lm zs ∧ val zs = val xs * n + m ∧ zs.length ≤ xs.length + 1 ∧ Below base w w' := by
  obtain ⟨i0, hi0, hz0, hz1, hz2⟩ := info_parts u32_info
  rcases own_cases ho with ⟨rfl, rfl⟩ | ⟨g, cap, rest, rfl, hgb, hB0, hcap, hcm, hlen⟩
  · rcases Nat.eq_zero_or_pos m with rfl | hpos
    · go_enter Tryz.func176, Tryz.ntmps176
      go_wp2
      go_loopw [7, 13] (fun c i wr => c = .int .u64 0 ∧ i = .int .i64 0 ∧ w = wr) (fun _ _ _ => 0)
      case atStart => exact ⟨rfl, rfl, rfl⟩
      case round =>
        obtain ⟨rfl, rfl, rfl⟩ := hrel
        go_wp2
        go_ret
        exact ⟨_, [], rfl, ho, Lm.nil, by simp [val], by simp, Below.refl _ _⟩
    · go_enter Tryz.func176, Tryz.ntmps176
      go_wp2
      go_loopw [7, 13] (fun c i wr => c = .int .u64 (m : Int) ∧ i = .int .i64 0 ∧ w = wr) (fun _ _ _ => 0)
      case atStart => exact ⟨rfl, rfl, rfl⟩
      case round =>
        obtain ⟨rfl, rfl, rfl⟩ := hrel
        go_wp2_with (at_builtin; refine wpList_append_own _ rfl _ _ 34 rfl base 99 i0 (.int .u32 0) 1 4 Tryz.underlying34 hi0 hz0 hz1 hz2 rfl (by decide) _ _ _ rfl (ho.alloc _) ⟨w.heap.size, 0, none⟩ 1 1 [.int .u32 (m : Int)] rfl rfl (cell_one_new _ _ _) (by simp [Value.oneCell']) (by simp [maxLen]) (by simp) (by simp; omega) ?_; intro v1 w1 hown1 hg1 _)
        go_ret
        refine ⟨v1, [m], rfl, by simpa [U] using hown1, Lm.cons hm Lm.nil, by simp [val], by simp, ?_⟩
        exact ((Below.refl base w).alloc hbase _).grown hg1 (by simp; omega) (fun k e => by have e2 : (Value.slice none 0 0).ownBlock = some k := e; cases e2)
  · have hL := Lib.hid hlen
    clear hlen
    go_enter Tryz.func176, Tryz.ntmps176
    go_wp2
    go_loopw [7, 13] (fun c i wr => TpRel w g xs rest n m c i wr) (fun _ i _ => xs.length - (intOf i).toNat)
    case atStart => exact ⟨0, [], m, Nat.zero_le _, rfl, rfl, hm, rfl, Lm.nil, by simp [val], by simpa using hB0, only_refl _ _⟩
    case round =>
      obtain ⟨k, zs, cy, hk, rfl, rfl, hcy, hzl, hzL, hv, hB, hG⟩ := hrel
      have HV := Lib.hid hv
      have HZ := Lib.hid hzl
      clear hv
      by_cases hlt : k < xs.length
      · have hc1 := blk_cell0 hB hzl (by omega : k < xs.length)
        have hf1 := hB.frozen k
        have hxk := hx.get k
        have hp : (((xs[k]?.getD 0 : Nat) : Int) * (n : Int)) = ((xs[k]?.getD 0 * n : Nat) : Int) := by simp
        have hpl := prod_le hxk hn
        have hst := timesPlus_step (xs := xs) (n := n) (m := m) hzl HV.out
        generalize hxe : xs[k]?.getD 0 = x at *
        generalize hpe : x * n = p at *
        have HST := Lib.hid hst
        clear hst hxe hpe hzl
        go_wp2
        go_roundw
        case rel =>
          refine ⟨k + 1, zs ++ [(cy + p) % 4294967296], (cy + p) / 4294967296, by omega, by go_num, by congr 1, carry2_lt hcy hpl, by simp [HZ.out], hzL.snoc (Nat.mod_lt _ (by decide)), HST.out, ?_, ?_⟩
          · exact blk_set0 hB HZ.out (by omega) _ (by congr 1)
          · exact only_setCell hG (.inl rfl) _
        case measure => simp [intOf]; omega
      · obtain rfl : k = xs.length := by omega
        have hB1 : Blk wr g (U zs ++ rest) := by simpa using hB
        have hlz : (U zs ++ rest).length = cap := by
          have h := hL.out
          simp only [List.length_append, U_len, HZ.out] at h ⊢
          exact h
        have hown := own_of_blk (base := base) hB1 hgb hcm hlz
        have HLZ := Lib.hid hlz
        have hVF : val zs + 4294967296 ^ xs.length * cy = val xs * n + m := by
          have h := HV.out
          rwa [List.take_length (l := xs)] at h
        have HVF := Lib.hid hVF
        have hbl : Below base w wr := below_of_only (Below.refl base w) hG hgb hbase
        rw [HZ.out] at hown
        clear hlz hVF hzl hB hB1
        rcases Nat.eq_zero_or_pos cy with rfl | hpos
        · go_wp2
          go_ret
          refine ⟨_, zs, rfl, by rw [HZ.out]; exact hown, hzL, by have := HVF.out; simpa using this, by rw [HZ.out]; omega, hbl⟩
        · have hbs : base ≤ wr.heap.size := Nat.le_trans hbase hbl.size
          go_wp2_with (at_builtin; refine wpList_append_own _ rfl _ _ 34 rfl base 99 i0 (.int .u32 0) 1 4 Tryz.underlying34 hi0 hz0 hz1 hz2 rfl (by decide) _ _ _ rfl (hown.alloc _) ⟨wr.heap.size, 0, none⟩ 1 1 [.int .u32 (cy : Int)] rfl rfl (cell_one_new _ _ _) (by simp [Value.oneCell']) (by unfold maxLen; omega) (by omega) (by simp; omega) ?_; intro v1 w1 hown1 hg1 _)
          go_ret
          refine ⟨v1, zs ++ [cy], rfl, ?_, hzL.snoc hcy, by rw [val_snoc, HZ.out]; exact HVF.out, by simp [HZ.out], ?_⟩
          · have e : (zs ++ [cy]).length = xs.length + 1 := by simp [HZ.out]
            rw [e, U_append]
            exact hown1
          · exact (hbl.alloc hbs _).grown hg1 (by simp; omega) (fun k e => by have e2 : (Value.slice (some ⟨g, 0, none⟩) xs.length cap).ownBlock = some k := e; have e3 : some g = some k := e2; injection e3 with e3; omega)

end LM
end Go.Proofs.YtpnjddfnlaonoaaGreatDoor

namespace Go.Proofs.YtpnjddfnlaonoaaGreatDoor
open Go.RowKit
namespace LM

/-- where the loop stands when k limbs are done -/
def SuRel (w : World) (g : Nat) (xs : List Nat) (n : Nat) (i : Value) (wr : World) : Prop :=
  ∃ (k : Nat) (zs : List Nat), k ≤ xs.length + 1 ∧ i = .int .i64 (k : Int) ∧ zs.length = k ∧ Lm zs ∧
    val zs + 4294967296 ^ k * (atI xs ((k : Int) - 1) / 2 ^ (32 - n)) = val (xs.take k) * 2 ^ n ∧ Blk wr g (U ([] ++ (zs ++ (List.replicate (xs.length + 1) 0).drop k) ++ [])) ∧ Below w.heap.size w wr

set_option maxRecDepth 100000 in
set_option maxHeartbeats 400000 in
theorem shiftedUp_any (A : Option Addr) (c : Nat) (xs : List Nat) (n : Nat) (w : World) (hr : Rd w A xs) (hx : Lm xs) (hn : n < 32) (hl : xs.length ≤ 4000) :
    Calls Tryz.prog 240 #[.slice A xs.length c, .int .i64 (n : Int)] w fun e w' =>
      ∃ zs : List Nat, e = .returned (.slice (some ⟨w.heap.size, 0, none⟩) (xs.length + 1) (xs.length + 1)) ∧ zs.length = xs.length + 1 ∧ Lm zs ∧ val zs = val xs * 2 ^ n ∧ Blk w' w.heap.size (U zs) ∧ Below w.heap.size w w' := by
  have hmk := fun W => run_make_row' (P := Tryz.prog) 34 99 (.int .u32 0) 4 Tryz.underlying34 u32_info rfl .i64 .i64 (xs.length + 1) (by omega) (by omega) W
  simp only [made_zero] at hmk
  rw [show ((xs.length + 1 : Nat) : Int) = (xs.length : Int) + 1 from by omega] at hmk
  go_enter Tryz.func240, Tryz.ntmps240
  go_wp2
  go_loopw [13] (fun i wr => SuRel w w.heap.size xs n i wr) (fun i _ => xs.length + 1 - (intOf i).toNat)
  case atStart => exact ⟨0, [], Nat.zero_le _, rfl, rfl, Lm.nil, by simp [val, atI_neg], by simpa using Blk.new w _, (Below.refl _ _).alloc (Nat.le_refl _) _⟩
  case round =>
    obtain ⟨k, zs, hk, rfl, hzl, hzL, hv, hB, hG⟩ := hrel
    have HV := Lib.hid hv
    have HZ := Lib.hid hzl
    clear hv
    by_cases hlt : k < xs.length + 1
    · have hc1 := blk_mid_cell hB hzl (by simpa using hlt)
      have hf1 := hB.frozen k
      have hr2 := hr.below hG
      have hxk := hx.get k
      have hyk := atI_lt hx ((k : Int) - 1)
      have hst := up_step (xs := xs) hn hzl HV.out
      generalize hxe : xs[k]?.getD 0 = x at *
      generalize hye : atI xs ((k : Int) - 1) = y at *
      have HXE := Lib.hid hxe
      have HYE := Lib.hid hye
      have HST := Lib.hid hst
      have HUL := Lib.hid (up_limb x y hn hyk)
      clear hxe hye hzl hst
      simp only [List.length_nil, Nat.zero_add] at hc1
      go_wp2_with fail
      have hw1 : IntKind.i64.wrap ((k : Int) - 1) = (k : Int) - 1 := IntWalk.i64_in _ (by omega)
      have hw2 : IntKind.i64.wrap (32 - (n : Int)) = 32 - (n : Int) := IntWalk.i64_in _ (by omega)
      go_region_with (first | (go_at_call_of 206 (Value.int .i64 (k : Int)); refine (at_nat A c xs k x _ hr2.drew (by omega) HXE.out).mono ?_; rintro e w1 ⟨rfl, rfl⟩) | (go_at_call 206; refine (at_any A c xs _ _ hr2.drew (by omega) (by omega)).mono ?_; rw [HYE.out]; rintro e w1 ⟨rfl, rfl⟩))
      rw [HUL.out]
      go_wp2
      go_roundw
      case rel =>
        refine ⟨k + 1, zs ++ [x * 2 ^ n % 4294967296 + y / 2 ^ (32 - n)], by omega, by go_num, by simp [HZ.out], hzL.snoc (sum_lt x y hn hyk), ?_, ?_, ?_⟩
        · rw [show ((k + 1 : Nat) : Int) - 1 = (k : Int) from by omega, atI_nat, HXE.out]
          exact HST.out
        · have h := blk_mid_set (w := wr.drew) hB.drew HZ.out (by simpa using hlt) (x * 2 ^ n % 4294967296 + y / 2 ^ (32 - n)) rfl
          simp only [List.length_nil, Nat.zero_add] at h
          exact h
        · exact hG.drew.setCell (Nat.le_refl _) _
      case measure => simp [intOf]; omega
    · obtain rfl : k = xs.length + 1 := by omega
      go_wp2
      go_ret
      refine ⟨zs, rfl, HZ.out, hzL, ?_, by simpa using hB, hG⟩
      have h := HV.out
      rw [show ((xs.length + 1 : Nat) : Int) - 1 = (xs.length : Int) from by omega, atI_nat, List.getElem?_eq_none (Nat.le_refl _), List.take_of_length_le (by omega)] at h
      simpa using h

end LM
end Go.Proofs.YtpnjddfnlaonoaaGreatDoor

namespace Go.Proofs.YtpnjddfnlaonoaaGreatDoor
open Go.RowKit
namespace LM

theorem at_len (A : Option Addr) (c n : Nat) (xs : List Nat) (k y : Nat) (w : World) (hr : Rd w A xs) (hn : xs.length = n) (hk : k ≤ 4096) (hy : xs[k]?.getD 0 = y) :
    Calls Tryz.prog 206 #[.slice A n c, .int .i64 (k : Int)] w fun e w' => e = .returned (.int .u32 (y : Int)) ∧ w = w' := by
  subst hn
  exact at_nat A c xs k y w hr hk hy

/-- where the loop stands when k limbs are done -/
def SdRel (w : World) (g : Nat) (pre post xs : List Nat) (n : Nat) (i : Value) (wr : World) : Prop :=
  ∃ (k : Nat) (zs : List Nat), k ≤ xs.length ∧ i = .int .i64 (k : Int) ∧ zs.length = k ∧ Lm zs ∧
    val zs * 2 ^ n + xs[0]?.getD 0 % 2 ^ n = val (xs.take k) + 4294967296 ^ k * (xs[k]?.getD 0 % 2 ^ n) ∧ Blk wr g (U (pre ++ (zs ++ xs.drop k) ++ post)) ∧ w.grownBy wr (some g)

set_option maxRecDepth 100000 in
set_option maxHeartbeats 400000 in
theorem shiftDown_any (g cap : Nat) (pre xs post : List Nat) (n : Nat) (w : World)
    (hg : Blk w g (U (pre ++ xs ++ post))) (hx : Lm xs) (hn : n < 32) (hl : xs.length ≤ 4000) :
    Calls Tryz.prog 243 #[.slice (some ⟨g, pre.length, none⟩) xs.length cap, .int .i64 (n : Int)] w fun e w' =>
      ∃ zs : List Nat, e = .returned (.tuple #[]) ∧ zs.length = xs.length ∧ Lm zs ∧ val zs * 2 ^ n + xs[0]?.getD 0 % 2 ^ n = val xs ∧ Blk w' g (U (pre ++ zs ++ post)) ∧ w.grownBy w' (some g) := by
  go_enter Tryz.func243, Tryz.ntmps243
  go_wp2
  go_loopw [7] (fun i wr => SdRel w g pre post xs n i wr) (fun i _ => xs.length - (intOf i).toNat)
  case atStart => exact ⟨0, [], Nat.zero_le _, rfl, rfl, Lm.nil, by simp [val], by simpa using hg, only_refl _ _⟩
  case round =>
    obtain ⟨k, zs, hk, rfl, hzl, hzL, hv, hB, hG⟩ := hrel
    have HV := Lib.hid hv
    have HZ := Lib.hid hzl
    clear hv
    by_cases hlt : k < xs.length
    · have hc1 := blk_mid_cell hB hzl (by omega : k < xs.length)
      have hf1 := hB.frozen (pre.length + k)
      have hr2 : Rd wr (some ⟨g, pre.length, none⟩) (zs ++ xs.drop k) := Rd.of_blk hB
      have hrl : (zs ++ xs.drop k).length = xs.length := by simp; omega
      have hry : (zs ++ xs.drop k)[k + 1]?.getD 0 = xs[k + 1]?.getD 0 := by
        rw [List.getElem?_append_right (by omega), List.getElem?_drop]; congr 2; omega
      have hxk := hx.get k
      have hyk := hx.get (k + 1)
      have hst := down_step (xs := xs) (c := xs[0]?.getD 0 % 2 ^ n) hn hzl HV.out
      have hdl := down_limb (xs[k]?.getD 0) (xs[k + 1]?.getD 0) hn hxk
      generalize hxe : xs[k]?.getD 0 = x at *
      generalize hye : xs[k + 1]?.getD 0 = y at *
      have HST := Lib.hid hst
      have HDL := Lib.hid hdl
      have HXE := Lib.hid hxe
      have HYE := Lib.hid hye
      have HRY := Lib.hid hry
      have HRL := Lib.hid hrl
      clear hxe hye hzl hst hdl hry hrl
      have hw1 : IntKind.i64.wrap ((k : Int) + 1) = ((k + 1 : Nat) : Int) := by rw [IntWalk.i64_in _ (by omega)]; omega
      have hw2 : IntKind.i64.wrap (32 - (n : Int)) = 32 - (n : Int) := IntWalk.i64_in _ (by omega)
      go_wp2_with fail
      go_region_with (go_at_call 206; refine (at_len _ cap xs.length _ (k + 1) y _ hr2.drew HRL.out (by omega) HRY.out).mono ?_; rintro e w1 ⟨rfl, rfl⟩)
      all_goals
        rw [HDL.out]
        go_wp2
        go_roundw
        case rel =>
          refine ⟨k + 1, zs ++ [y * 2 ^ (32 - n) % 4294967296 + x / 2 ^ n], by omega, by go_num, by simp [HZ.out], hzL.snoc (down_lt x y hn hxk), ?_, ?_, ?_⟩
          · rw [HYE.out]; exact HST.out
          · exact blk_mid_set (w := wr.drew) hB.drew HZ.out (by omega) _ rfl
          · exact only_setCell (only_drew hG) (.inl rfl) _
        case measure => simp [intOf]; omega
    · obtain rfl : k = xs.length := by omega
      go_wp2
      go_end0
      refine ⟨zs, rfl, HZ.out, hzL, ?_, by simpa using hB, hG⟩
      have h := HV.out
      rw [List.take_length, List.getElem?_eq_none (Nat.le_refl _)] at h
      simpa using h

end LM
end Go.Proofs.YtpnjddfnlaonoaaGreatDoor

namespace Go.Proofs.YtpnjddfnlaonoaaGreatDoor
open Go.RowKit
namespace LM

/-- where the loop stands -/
def ToRel (w : World) (g : Nat) (pre post xs ys : List Nat) (o l : Value) (wr : World) : Prop :=
  ∃ (zs : List Nat) (q br : Nat), o = .int .u32 (q : Int) ∧ l = .int .u32 (br : Int) ∧ q < 4294967296 ∧ br ≤ 1 ∧ zs.length = xs.length ∧ Lm zs ∧
    val zs + val ys * q = val xs + 4294967296 ^ xs.length * br ∧ (val xs < val ys * 4294967296 → val xs < val ys * (q + 1)) ∧ Blk wr g (U (pre ++ zs ++ post)) ∧ w.grownBy wr (some g)

set_option maxRecDepth 100000 in
set_option maxHeartbeats 400000 in
theorem takeOut_any (g cap : Nat) (pre xs post : List Nat) (B : Option Addr) (cb : Nat) (ys : List Nat) (w : World)
    (hg : Blk w g (U (pre ++ xs ++ post))) (hb : Rd w B ys) (hBg : 0 < ys.length → Off B g) (hxl : xs.length = ys.length + 1) (hx : Lm xs) (hy : Lm ys) (hl : xs.length ≤ 4000) (hn : 0 < ys.length)
    (ht : ys[ys.length - 1]?.getD 0 ≠ 0) :
    Calls Tryz.prog 242 #[.slice (some ⟨g, pre.length, none⟩) xs.length cap, .slice B ys.length cb] w fun e w' =>
      ∃ (zs : List Nat) (q : Nat), e = .returned (.int .u32 (q : Int)) ∧ q < 4294967296 ∧ zs.length = xs.length ∧ Lm zs ∧ val zs + val ys * q = val xs ∧ (val xs < val ys * 4294967296 → val zs < val ys) ∧ Blk w' g (U (pre ++ zs ++ post)) ∧ w.grownBy w' (some g) := by
  have hge := fun h => guess_ge hx hxl rfl hn ht h
  obtain ⟨b2, o2, rfl, _, hc0⟩ := hb (by omega)
  have c1 := blk_mid_cell (zs := xs.take ys.length) (k := ys.length) (by rw [List.take_append_drop]; exact hg) (by simp; omega) (by omega)
  have c2 := blk_mid_cell (zs := xs.take (ys.length - 1)) (k := ys.length - 1) (by rw [List.take_append_drop]; exact hg) (by simp; omega) (by omega)
  have c3 := hc0 (ys.length - 1) (by omega)
  clear hc0
  have l1 := hx.get ys.length
  have l2 := hx.get (ys.length - 1)
  have l3 := hy.get (ys.length - 1)
  have HGE := Lib.hid hge
  have hgd : guessOf xs ys ys.length = min ((xs[ys.length]?.getD 0 * 4294967296 + xs[ys.length - 1]?.getD 0) / ys[ys.length - 1]?.getD 0) 4294967295 := rfl
  have HXL := Lib.hid hxl
  have hoh := or_high l1 l2
  have hxl2 : ys.length < xs.length := by omega
  generalize xs[ys.length]?.getD 0 = x1 at *
  generalize xs[ys.length - 1]?.getD 0 = x2 at *
  generalize ys[ys.length - 1]?.getD 0 = y1 at *
  have hdv : ((x1 : Int) * 4294967296 + (x2 : Int)) / (y1 : Int) = (((x1 * 4294967296 + x2) / y1 : Nat) : Int) := by simp
  generalize (x1 * 4294967296 + x2) / y1 = d at *
  have HGD := Lib.hid hgd
  have HT := Lib.hid ht
  have ht2 : 1 ≤ y1 := by omega
  clear hge hgd hxl ht
  have hw1 : IntKind.i64.wrap ((ys.length : Int) - 1) = ((ys.length - 1 : Nat) : Int) := by rw [IntWalk.i64_in _ (by omega)]; omega
  go_enter Tryz.func242, Tryz.ntmps242
  go_wp2_with fail
  go_quiet (fail)
  go_wp2_with fail
  all_goals
    first
    | rw [show (4294967295 : Int) = ((guessOf xs ys ys.length : Nat) : Int) from by rw [HGD.out]; omega]
    | rw [show (d : Int) = ((guessOf xs ys ys.length : Nat) : Int) from by rw [HGD.out]; omega]
    have hgl := guess_lt xs ys ys.length
    generalize guessOf xs ys ys.length = q0 at *
    refine (subTimes_any g cap pre xs post _ cb ys q0 _ (hg.drewN _) (hb.drewN _) hBg hxl2 hx hy hgl (by omega)).mono ?_
    rintro e w1 ⟨zs, br, rfl, hbr, hzl, hzL, hv, hB, hG⟩
    have HV := Lib.hid hv
    have HZ := Lib.hid hzl
    clear hv hzl
    have hG1 : w.grownBy w1 (some g) := only_trans (only_drewN (only_refl w _) _) hG
    go_wp2_with fail
    go_loopw [7, 8] (fun o l wr => ToRel w g pre post xs ys o l wr) (fun o l _ => (intOf o).toNat + (intOf l).toNat)
    case atStart => exact ⟨zs, q0, br, rfl, rfl, hgl, hbr, HZ.out, hzL, HV.out, HGE.out, hB, hG1⟩
    case round =>
      clear HV HZ hB hG hG1 hzL hbr
      obtain ⟨zs, q, br, rfl, rfl, hq, hbr, hzl, hzL, hv, hlow, hB, hG⟩ := hrel
      have HLOW := Lib.hid hlow
      have HV := Lib.hid hv
      have HZ := Lib.hid hzl
      clear hlow hv
      rcases Nat.eq_zero_or_pos br with rfl | hpos
      · clear hzl
        go_wp2
        go_ret
        have hv := HV.out
        refine ⟨zs, q, rfl, hq, HZ.out, hzL, by simpa using hv, fun hh => ?_, hB, hG⟩
        have hlow := HLOW.out hh
        rw [Nat.mul_add, Nat.mul_one] at hlow
        rw [Nat.mul_zero, Nat.add_zero] at hv
        omega
      · obtain rfl : br = 1 := by omega
        have hv := HV.out
        have hzlt := val_lt hzL
        rw [hzl] at hzlt
        have hq1 : 1 ≤ q := by
          rcases Nat.eq_zero_or_pos q with rfl | h
          · rw [Nat.mul_zero] at hv; omega
          · exact h
        have hc := addTo_any g cap pre zs post _ cb ys wr hB (hb.grownG hG hBg) hBg (by omega) hzL hy (by omega)
        rw [hzl] at hc
        have HC := Lib.hid hc
        clear hc hzl hzlt hv
        go_wp2_with fail
        refine HC.out.mono ?_
        rintro e w2 ⟨us, c, rfl, hc, hul, huL, huv, hB2, hG2⟩
        have HUV := Lib.hid huv
        have HUL := Lib.hid hul
        clear huv hul HC
        go_wp2
        go_roundw
        case rel =>
          refine ⟨us, q - 1, 1 - c, ?_, ?_, by omega, by omega, HUL.out, huL, ?_, ?_, hB2, only_trans hG hG2⟩
          · congr 1; omega
          · congr 1; omega
          · have h1 := HUV.out
            have h2 := HV.out
            obtain ⟨r, rfl⟩ : ∃ r, q = r + 1 := ⟨q - 1, by omega⟩
            rw [Nat.add_sub_cancel]
            rw [Nat.mul_add, Nat.mul_one] at h2
            generalize 4294967296 ^ xs.length = P at *
            have h3 : c = 0 ∨ c = 1 := by omega
            rcases h3 with rfl | rfl
            · simp only [Nat.mul_zero, Nat.sub_zero, Nat.mul_one] at *; omega
            · simp only [Nat.sub_self, Nat.mul_zero, Nat.mul_one] at *; omega
          · intro _
            have h2 := HV.out
            have h4 := val_lt hzL
            rw [HZ.out] at h4
            rw [Nat.sub_add_cancel hq1]
            omega
        case measure => simp [intOf]; omega

end LM
end Go.Proofs.YtpnjddfnlaonoaaGreatDoor
