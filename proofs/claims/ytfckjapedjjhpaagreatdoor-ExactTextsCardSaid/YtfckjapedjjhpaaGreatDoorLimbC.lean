/- Walks of package limb: addTimes: a number, some times, is added in its place. -/
import Derived.Test.YtfckjapedjjhpaaGreatDoorLimbB
import Derived.Test.YtfckjapedjjhpaaGreatDoorLimbMath
namespace Go.Proofs.YtfckjapedjjhpaaGreatDoor
open Go.RowKit
namespace LM

/-- where the loop stands when k limbs are done -/
def AtRel (w : World) (g : Nat) (pre post xs ys : List Nat) (n : Nat) (c i : Value) (wr : World) : Prop :=
  ∃ (k : Nat) (zs : List Nat) (cy : Nat), k ≤ ys.length ∧ i = .int .i64 (k : Int) ∧ c = .int .u64 (cy : Int) ∧ cy < 4294967296 ∧ zs.length = k ∧ Lm zs ∧
    val zs + 4294967296 ^ k * cy = val (xs.take k) + val (ys.take k) * n ∧ Blk wr g (U (pre ++ (zs ++ xs.drop k) ++ post)) ∧ w.grownBy wr (some g)

theorem blk_mid_cell {w : World} {g : Nat} {pre post zs xs : List Nat} {k : Nat} (h : Blk w g (U (pre ++ (zs ++ xs.drop k) ++ post))) (hz : zs.length = k) (hk : k < xs.length) :
    w.cell? ⟨g, pre.length + k, none⟩ = some (.int .u32 ((xs[k]?.getD 0 : Nat) : Int)) := by
  rw [h.cell, U_get _ _ (by simp; omega)]
  congr 3
  rw [List.append_assoc, List.getElem?_append_right (by omega), List.append_assoc, List.getElem?_append_right (by omega), List.getElem?_append_left (by simp; omega), List.getElem?_drop]
  congr 2; omega
theorem blk_mid_set {w : World} {g : Nat} {pre post zs xs : List Nat} {k : Nat} (h : Blk w g (U (pre ++ (zs ++ xs.drop k) ++ post))) (hz : zs.length = k) (hk : k < xs.length) (y : Nat) {v : Value} (hv : v = .int .u32 (y : Int)) :
    Blk (w.setCell ⟨g, pre.length + k, none⟩ v) g (U (pre ++ ((zs ++ [y]) ++ xs.drop (k + 1)) ++ post)) := by
  subst hv
  have h1 := h.set_ (pre.length + k) (.int .u32 (y : Int))
  rw [drop_cons_get xs k hk] at h1
  subst hz
  rw [set_mid] at h1
  simpa using h1

end LM
end Go.Proofs.YtfckjapedjjhpaaGreatDoor
