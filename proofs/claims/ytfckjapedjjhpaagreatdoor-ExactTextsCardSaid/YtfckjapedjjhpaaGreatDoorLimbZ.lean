/- Walks: the document's answer Minus. -/
import Derived.Test.YtfckjapedjjhpaaGreatDoorLimbY
import Derived.Test.YtfckjapedjjhpaaGreatDoorLimbO
namespace Go.Proofs.YtfckjapedjjhpaaGreatDoor
open Go.RowKit
namespace LM

/-- where the loop stands when k limbs are done -/
def MiRel (w : World) (xs ys : List Nat) (v b i : Value) (wr : World) : Prop :=
  ∃ (k : Nat) (zs : List Nat) (br : Nat), k ≤ xs.length ∧ i = .int .i64 (k : Int) ∧ b = .int .u64 (br : Int) ∧ br ≤ 1 ∧ zs.length = k ∧ Lm zs ∧
    val zs + val (ys.take k) = val (xs.take k) + 4294967296 ^ k * br ∧ wr.ownsRow w.heap.size 54 1 v zs.length (U zs) ∧ Below w.heap.size w wr

theorem take_same {xs ys : List Nat} (hx : Lm xs) (h : val ys ≤ val xs) : val (ys.take xs.length) = val ys := by
  have e := val_split ys xs.length
  have h1 := val_lt hx
  rcases Nat.lt_or_ge ys.length xs.length with h2 | h2
  · rw [List.take_of_length_le (by omega)]
  · rw [Nat.min_eq_left h2] at e
    have h0 : val (ys.drop xs.length) = 0 := by
      rcases Nat.eq_zero_or_pos (val (ys.drop xs.length)) with h3 | h3
      · exact h3
      · have := Nat.mul_le_mul_left (4294967296 ^ xs.length) h3
        omega
    rw [h0] at e; omega
theorem minus_end {xs ys zs : List Nat} {br : Nat} (hz : zs.length = xs.length) (hzL : Lm zs) (hx : Lm xs) (hb : br ≤ 1) (hle : val ys ≤ val xs)
    (h : val zs + val (ys.take xs.length) = val (xs.take xs.length) + 4294967296 ^ xs.length * br) : val zs = val xs - val ys := by
  rw [take_same hx hle, List.take_length] at h
  have e1 := val_lt hzL
  rw [hz] at e1
  generalize 4294967296 ^ xs.length = P at *
  have h3 : br = 0 ∨ br = 1 := by omega
  rcases h3 with rfl | rfl
  · rw [Nat.mul_zero] at h; omega
  · rw [Nat.mul_one] at h; omega

end LM
end Go.Proofs.YtfckjapedjjhpaaGreatDoor
