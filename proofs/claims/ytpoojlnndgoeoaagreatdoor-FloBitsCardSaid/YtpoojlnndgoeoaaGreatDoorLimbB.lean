/- Walks of package limb: bounded, widened, and the library's Add32 and Sub32. -/
import Derived.Deep.OwnRows
import Derived.Laws.CopyOwn
import Derived.Test.YtpoojlnndgoeoaaGreatDoorLimbA
import Derived.Test.YtpoojlnndgoeoaaGreatDoorLimbMath
namespace Go.Proofs.YtpoojlnndgoeoaaGreatDoor
open Go.RowKit
namespace LM

set_option maxHeartbeats 400000 in
theorem bounded_big (A : Option Addr) (c : Nat) (xs : List Nat) (w : World) (hr : Rd w A xs) (hnc : xs.length ≤ c) (hc : c ≤ maxLen) (hb : 64 < (trim xs).length) :
    Calls Tryz.prog 119 #[.slice A xs.length c] w fun e w' => e = .returned (.tuple #[.slice none 0 0, .int .i64 11]) ∧ w = w' := by
  have hl := trim_length_le xs
  have hd : decide (64 < (trim xs).length) = true := decide_eq_true hb
  go_enter Tryz.func119, Tryz.ntmps119
  go_wp2_with fail
  refine (trimmed_any _ _ _ _ hr hnc hc).mono ?_; rintro e w' ⟨rfl, rfl⟩
  go_wp2_with fail
  refine (isBig_any _ _ _ _ (by omega)).mono ?_; rintro e w' ⟨rfl, rfl⟩
  go_wp2
  go_ret2
  exact ⟨rfl, rfl⟩

set_option maxHeartbeats 400000 in
theorem bounded_ok (A : Option Addr) (c : Nat) (xs : List Nat) (w : World) (hr : Rd w A xs) (hnc : xs.length ≤ c) (hc : c ≤ maxLen) (hb : (trim xs).length ≤ 64) :
    Calls Tryz.prog 119 #[.slice A xs.length c] w fun e w' => e = .returned (.tuple #[.slice A (trim xs).length c, .int .i64 0]) ∧ w = w' := by
  have hl := trim_length_le xs
  have hd : decide (64 < (trim xs).length) = false := decide_eq_false (by omega)
  go_enter Tryz.func119, Tryz.ntmps119
  go_wp2_with fail
  refine (trimmed_any _ _ _ _ hr hnc hc).mono ?_; rintro e w' ⟨rfl, rfl⟩
  go_wp2_with fail
  refine (isBig_any _ _ _ _ (by omega)).mono ?_; rintro e w' ⟨rfl, rfl⟩
  go_wp2
  go_ret2
  exact ⟨rfl, rfl⟩

theorem u32_info : (Tryz.prog.info? 88).map (fun i => (i.zero, i.size, i.bytes)) = some (some (.int .u32 0), 1, 4) := by kernel_rfl
theorem u32_size : (Tryz.prog.info? 88).map (·.size) = some 1 := by kernel_rfl

theorem addr_add (b off j : Nat) : Addr.add ⟨b, off, none⟩ j = ⟨b, off + j, none⟩ := by
  unfold Addr.add; split <;> simp_all

theorem made_zero (n : Nat) : (madeCells #[Value.int .u32 0] n) = (U (List.replicate n 0)).toArray := by
  apply Array.ext <;> simp [madeCells, U, Nat.mod_one]

set_option maxHeartbeats 400000 in
theorem widened_any (A : Option Addr) (c n : Nat) (xs : List Nat) (w : World) (hr : Rd w A xs) (hn : xs.length ≤ n) (hm : n ≤ 4096) :
    Calls Tryz.prog 96 #[.slice A xs.length c, .int .i64 (n : Int)] w fun e w' => e = .returned (.slice (some ⟨w.heap.size, 0, none⟩) n n) ∧ Blk w' w.heap.size (U (xs ++ List.replicate (n - xs.length) 0)) ∧ Below w.heap.size w w' := by
  have hmk := fun W => run_make_row' (P := Tryz.prog) 39 88 (.int .u32 0) 4 Tryz.underlying39 u32_info rfl .i64 .i64 n (by omega) (by omega) W
  simp only [made_zero] at hmk
  go_enter Tryz.func96, Tryz.ntmps96
  go_wp2_with (with_reducible refine wpList_copy_splice rfl (.tmp 8) (.tmp 9) 39 39 rfl 88 Tryz.underlying39 u32_size (some ⟨w.heap.size, 0, none⟩) A n n xs.length c rfl rfl w.heap.size 0 (U (List.replicate n 0)) 88 ?c1 (U xs) ?c2 ?c3 ?c4 ?c5 w.heap.size w ?c6 (Nat.le_refl _) ?_)
  case c1 => exact Blk.new w _
  case c2 => rw [U_len]; exact (Nat.min_eq_left hn).symm
  case c3 =>
    intro hl
    rw [U_len] at hl
    obtain ⟨b, off, rfl, hb, hc⟩ := hr hl
    refine ⟨⟨b, off, none⟩, rfl, fun j v hv => ?_⟩
    have hj : j < xs.length := by
      rcases Nat.lt_or_ge j xs.length with h | h
      · exact h
      · rw [List.getElem?_eq_none (by rw [U_len]; exact h)] at hv; cases hv
    rw [U_get _ _ hj] at hv
    rw [← hv, ← hc j hj]
    rw [addr_add]
    exact World.cell?_of_block (a := ⟨b, off + j, none⟩) (Below.heap_alloc w _ b hb)
  case c4 => simp [U_len]; omega
  case c5 =>
    intro v hv
    simp only [U, List.mem_map] at hv
    obtain ⟨x, _, rfl⟩ := hv
    rfl
  case c6 => exact (Below.refl _ _).alloc (Nat.le_refl _) _
  intro w1 hg1 hb1
  have H := Lib.hid hb1
  clear hb1
  go_wp2
  go_ret
  refine ⟨rfl, ?_, H.out⟩
  have h := hg1.out
  unfold Blk
  rw [h]
  congr 3
  simp only [splice, List.take_zero, List.nil_append, U_len, U_append, Nat.zero_add]
  congr 1
  simp [U]

def sumLo (x y z : Nat) : Nat := (x + y + z) % 4294967296
def sumHi (x y z : Nat) : Nat := (x + y + z) / 4294967296
def difLo (x y z : Nat) : Nat := (x + 4294967296 - y - z) % 4294967296
def difHi (x y z : Nat) : Nat := 1 - (x + 4294967296 - y - z) / 4294967296

end LM
end Go.Proofs.YtpoojlnndgoeoaaGreatDoor
