/- Walks: the document's answer Cmp. -/
import Derived.Test.YtfckjapedjjhpaaGreatDoorLimbU
import Derived.Test.YtfckjapedjjhpaaGreatDoorLimbL
namespace Go.Proofs.YtfckjapedjjhpaaGreatDoor
open Go.RowKit
namespace LM

def padV (xs : List Nat) (n : Nat) : List Nat := xs ++ List.replicate (n - xs.length) 0
theorem padV_val (xs : List Nat) (n : Nat) : val (padV xs n) = val xs := by rw [padV, val_append, val_replicate]; simp
theorem padV_len {xs : List Nat} {n : Nat} (h : xs.length ≤ n) : (padV xs n).length = n := by simp [padV]; omega
theorem padV_lm {xs : List Nat} (h : Lm xs) (n : Nat) : Lm (padV xs n) := h.append (Lm.replicate _)
theorem padV_get (xs : List Nat) (n j : Nat) : (padV xs n)[j]?.getD 0 = xs[j]?.getD 0 := by
  unfold padV
  rcases Nat.lt_or_ge j xs.length with h | h
  · rw [List.getElem?_append_left h]
  · rw [List.getElem?_append_right h, List.getElem?_eq_none (l := xs) h, List.getElem?_replicate]
    split <;> rfl
theorem get_lt_at {xs ys : List Nat} (hx : Lm xs) {k : Nat} (he : ∀ j, k < j → xs[j]?.getD 0 = ys[j]?.getD 0) (h : xs[k]?.getD 0 < ys[k]?.getD 0) : val xs < val ys := by
  have hk : k < ys.length := by
    rcases Nat.lt_or_ge k ys.length with h1 | h1
    · exact h1
    · rw [List.getElem?_eq_none h1] at h; simp at h
  have h1 := val_lt_at (xt := padV xs (max xs.length ys.length)) (yt := padV ys (max xs.length ys.length)) (padV_lm hx _) (by rw [padV_len (by omega), padV_len (by omega)]) (k := k) (by rw [padV_len (by omega)]; omega)
    (fun j hj => by rw [padV_get, padV_get]; exact he j hj) (by rw [padV_get, padV_get]; exact h)
  rwa [padV_val, padV_val] at h1
theorem get_eq_all {xs ys : List Nat} (he : ∀ j : Nat, xs[j]?.getD 0 = ys[j]?.getD 0) : val xs = val ys := by
  rw [← padV_val xs (max xs.length ys.length), ← padV_val ys (max xs.length ys.length)]
  congr 1
  refine eq_all (by rw [padV_len (by omega), padV_len (by omega)]) (fun j _ => ?_)
  rw [padV_get, padV_get]; exact he j

/-- all limbs from this place on are the same -/
def EqFrom (xs ys : List Nat) (j : Nat) : Prop := ∀ i, j ≤ i → xs[i]?.getD 0 = ys[i]?.getD 0

end LM
end Go.Proofs.YtfckjapedjjhpaaGreatDoor
