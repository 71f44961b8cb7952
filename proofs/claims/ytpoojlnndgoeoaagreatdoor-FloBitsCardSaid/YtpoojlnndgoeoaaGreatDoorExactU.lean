/- Walks of the document's answer for layer 2: Quo, Mod. -/
import Derived.Test.YtpoojlnndgoeoaaGreatDoorExactAlive
import Derived.Test.YtpoojlnndgoeoaaGreatDoorLimbDivAny
import Derived.Test.YtpoojlnndgoeoaaGreatDoorExactS
namespace Go.Proofs.YtpoojlnndgoeoaaGreatDoor
open Go.RowKit
namespace LM

theorem divmod_eq {x y q r : Nat} (h : x = y * q + r) (hr : r < y) : q = x / y ∧ r = x % y := by
  subst h
  constructor
  · rw [Nat.mul_add_div (by omega), Nat.div_eq_of_lt hr, Nat.add_zero]
  · rw [Nat.mul_add_mod, Nat.mod_eq_of_lt hr]

/-- where the loop stands when the bits from n on are done -/
def SpRel (w : World) (xs ys : List Nat) (vq vr i : Value) (wr : World) : Prop :=
  ∃ n q r : Nat, n ≤ 32 * xs.length ∧ i = .int .i64 ((n : Int) - 1) ∧ NumR wr vq q ∧ NumR wr vr r ∧ val xs / 2 ^ n = val ys * q + r ∧ r < val ys ∧ Below w.heap.size w wr

theorem quo_len {xs ys qs : List Nat} {n q r : Nat} (hx : Lm xs) (hy : 0 < val ys) (hq : Can qs) (hv : val qs = q) (h : val xs / 2 ^ n = val ys * q + r) : qs.length ≤ xs.length := by
  refine num_len hq hv (Nat.lt_of_le_of_lt ?_ (val_lt hx))
  have h1 := Nat.div_le_self (val xs) (2 ^ n)
  have h2 := Nat.le_mul_of_pos_left q hy
  omega
theorem rest_len {ys rs : List Nat} {r : Nat} (hy : Lm ys) (hr : Can rs) (hv : val rs = r) (h : r < val ys) : rs.length ≤ ys.length := num_len hr hv (Nat.lt_trans h (val_lt hy))

end LM
end Go.Proofs.YtpoojlnndgoeoaaGreatDoor

namespace Go.Proofs.YtpoojlnndgoeoaaGreatDoor
open Go.RowKit
namespace LM
set_option linter.unusedVariables false

/-- what a division comes to -/
def QOut (x y q r e : Int) : Prop := (y = 0 ∧ e = 12 ∧ q = 0 ∧ r = 0) ∨ (y ≠ 0 ∧ e = 0 ∧ q = quoI x y ∧ r = remI x y)
def MOut (x y m e : Int) : Prop := (y = 0 ∧ e = 12 ∧ m = 0) ∨ (y ≠ 0 ∧ e = 0 ∧ m = modI x y)
theorem QOut.same {x y a b c d e f : Int} (h : QOut x y a b e) (k : QOut x y c d f) : a = c ∧ b = d ∧ e = f := by
  rcases h with ⟨h1, rfl, rfl, rfl⟩ | ⟨h1, rfl, rfl, rfl⟩ <;> rcases k with ⟨k1, rfl, rfl, rfl⟩ | ⟨k1, rfl, rfl, rfl⟩
  · exact ⟨rfl, rfl, rfl⟩
  · exact absurd h1 k1
  · exact absurd k1 h1
  · exact ⟨rfl, rfl, rfl⟩
theorem MOut.same {x y a b e f : Int} (h : MOut x y a e) (k : MOut x y b f) : a = b ∧ e = f := by
  rcases h with ⟨h1, rfl, rfl⟩ | ⟨h1, rfl, rfl⟩ <;> rcases k with ⟨k1, rfl, rfl⟩ | ⟨k1, rfl, rfl⟩
  · exact ⟨rfl, rfl⟩
  · exact absurd h1 k1
  · exact absurd k1 h1
  · exact ⟨rfl, rfl⟩
theorem QOut.fit {x y q r e : Int} (h : QOut x y q r e) (hx : ¬ BigI x) : ¬ BigI q ∧ ¬ BigI r := by
  rcases h with ⟨_, _, rfl, rfl⟩ | ⟨_, _, rfl, rfl⟩
  · exact ⟨bigI_zero, bigI_zero⟩
  · exact ⟨quo_not_big hx, rem_not_big hx⟩
theorem MOut.fit {x y m e : Int} (h : MOut x y m e) (hy : ¬ BigI y) : ¬ BigI m := by
  rcases h with ⟨_, _, rfl⟩ | ⟨h, _, rfl⟩
  · exact bigI_zero
  · exact fun hb => hy (hb.mono (Nat.le_of_lt (mod_lt_abs x y h)))
theorem RetQ.out {w w' : World} {x y : Int} {e : Ending} (h : RetQ w x y e w') : ∃ s A n c s' A' n' c' er q r, e = .returned (.tuple #[.agg #[.bool s, .slice A n c], .agg #[.bool s', .slice A' n' c'], .int .i64 er]) ∧
    IntV w' (.agg #[.bool s, .slice A n c]) q ∧ IntV w' (.agg #[.bool s', .slice A' n' c']) r ∧ QOut x y q r er ∧ Below w.heap.size w w' := by
  obtain ⟨s, A, n, c, s', A', n', c', er, rfl, ⟨h1, h2, h3, h4⟩ | ⟨h1, h2, h3, h4⟩, hb⟩ := h
  · exact ⟨s, A, n, c, s', A', n', c', er, 0, 0, rfl, h3, h4, .inl ⟨h1, h2, rfl, rfl⟩, hb⟩
  · exact ⟨s, A, n, c, s', A', n', c', er, _, _, rfl, h3, h4, .inr ⟨h1, h2, rfl, rfl⟩, hb⟩
theorem RetM.out {w w' : World} {x y : Int} {e : Ending} (h : RetM w x y e w') : ∃ s A n c er m, e = .returned (.tuple #[.agg #[.bool s, .slice A n c], .int .i64 er]) ∧ IntV w' (.agg #[.bool s, .slice A n c]) m ∧ MOut x y m er ∧ Below w.heap.size w w' := by
  obtain ⟨s, A, n, c, er, rfl, ⟨h1, h2, h3⟩ | ⟨h1, h2, h3⟩, hb⟩ := h
  · exact ⟨s, A, n, c, er, 0, rfl, h3, .inl ⟨h1, h2, rfl⟩, hb⟩
  · exact ⟨s, A, n, c, er, _, rfl, h3, .inr ⟨h1, h2, rfl⟩, hb⟩
/-- the document's division -/
def RetQR (w : World) (x y : Int) (e : Ending) (w' : World) : Prop := ∃ s A n c s' A' n' c' er q r, e = .returned (.tuple #[.agg #[.bool s, .slice A n c], .agg #[.bool s', .slice A' n' c'], .int .i64 er]) ∧
    IntR w' (.agg #[.bool s, .slice A n c]) q ∧ IntR w' (.agg #[.bool s', .slice A' n' c']) r ∧ QOut x y q r er ∧ Below w.heap.size w w'
def RetMR (w : World) (x y : Int) (e : Ending) (w' : World) : Prop := ∃ s A n c er m, e = .returned (.tuple #[.agg #[.bool s, .slice A n c], .int .i64 er]) ∧ IntR w' (.agg #[.bool s, .slice A n c]) m ∧ MOut x y m er ∧ Below w.heap.size w w'

end LM
end Go.Proofs.YtpoojlnndgoeoaaGreatDoor
