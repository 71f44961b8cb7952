/- Walks of package limb: Mul: the product. -/
import Derived.Test.YtfckjapedjjhpaaGreatDoorLimbM
namespace Go.Proofs.YtfckjapedjjhpaaGreatDoor
open Go.RowKit
namespace LM

/-- where the loop stands when k limbs of the one are done -/
def MuRel (w : World) (g : Nat) (xt yt : List Nat) (i : Value) (wr : World) : Prop :=
  ∃ (k : Nat) (zs : List Nat), k ≤ yt.length ∧ i = .int .i64 (k : Int) ∧ zs.length = k + xt.length ∧ Lm zs ∧ val zs = val xt * val (yt.take k) ∧
    Blk wr g (U (zs ++ List.replicate (yt.length - k) 0)) ∧ w.grownBy wr (some g) ∧ Below w.heap.size w wr

theorem mul_step {xt yt zs zs' : List Nat} {k c : Nat} (hk : k ≤ zs.length) (hl : zs'.length = xt.length) (h : val zs = val xt * val (yt.take k))
    (h2 : val zs' + 4294967296 ^ xt.length * c = val (zs.drop k) + val xt * yt[k]?.getD 0) :
    val (zs.take k ++ (zs' ++ [c])) = val xt * val (yt.take (k + 1)) := by
  have e := val_split zs k
  rw [Nat.min_eq_left hk] at e
  rw [val_append, val_snoc, val_take_succ, List.length_take, Nat.min_eq_left hk, hl]
  generalize yt[k]?.getD 0 = y at *
  generalize 4294967296 ^ xt.length = Q at *
  generalize 4294967296 ^ k = P at *
  grind

theorem mul_blk {w : World} {g k n m : Nat} {zs zs' : List Nat} (hz : zs.length = k + n) (hz' : zs'.length = n) (hk : k < m) (h : Blk w g (U (zs.take k ++ (zs' ++ (zs.drop k ++ List.replicate (m - k) 0).drop n) ++ []))) :
    Blk w g (U ([] ++ ((zs.take k ++ zs') ++ (List.replicate (m + n) 0).drop (k + n)) ++ [])) := by
  have e : (zs.drop k ++ List.replicate (m - k) (0 : Nat)).drop n = (List.replicate (m + n) 0).drop (k + n) := by
    rw [List.drop_left' (by simp; omega), List.drop_replicate]
    congr 1; omega
  rw [e] at h
  simpa using h
theorem mul_cell {w : World} {g k n m : Nat} {zs zs' : List Nat} (hz : zs.length = k + n) (hz' : zs'.length = n) (hk : k < m) (h : Blk w g (U ([] ++ ((zs.take k ++ zs') ++ (List.replicate (m + n) 0).drop (k + n)) ++ []))) :
    w.cell? ⟨g, k + n, none⟩ = some (.int .u32 0) := by
  have h1 := blk_mid_cell h (by simp; omega) (by simp; omega)
  simpa [List.getElem?_replicate, show k + n < m + n from by omega] using h1
theorem mul_set {w : World} {g k n m : Nat} {zs zs' : List Nat} (hz : zs.length = k + n) (hz' : zs'.length = n) (hk : k < m) (h : Blk w g (U ([] ++ ((zs.take k ++ zs') ++ (List.replicate (m + n) 0).drop (k + n)) ++ []))) (c : Nat) {v : Value} (hv : v = .int .u32 (c : Int)) :
    Blk (w.setCell ⟨g, k + n, none⟩ v) g (U ((zs.take k ++ (zs' ++ [c])) ++ List.replicate (m - (k + 1)) 0)) := by
  have h1 := blk_mid_set h (by simp; omega) (by simp; omega) c hv
  rw [List.drop_replicate, show m + n - (k + n + 1) = m - (k + 1) from by omega] at h1
  simpa using h1

end LM
end Go.Proofs.YtfckjapedjjhpaaGreatDoor
