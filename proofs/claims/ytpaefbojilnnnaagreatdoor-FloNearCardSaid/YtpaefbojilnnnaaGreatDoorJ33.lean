/- Walks: the document's answer Parse. -/
import Derived.Test.YtpaefbojilnnnaaGreatDoorJ27
import Derived.Test.YtpaefbojilnnnaaGreatDoorJ17
import Derived.LoopTactic
import Derived.Deep.DrawnRows
namespace Go.Proofs.YtpaefbojilnnnaaGreatDoor
open Go Go.RowKit
namespace LM
attribute [local go_sem ↓] Go.wp_at_zero Go.wp_at_succ

/-- what the document's Parse answers -/
def RParseE (l : List UInt8) (e : Ending) (w' : World) : Prop := ∃ v er, e = .returned (.tuple #[v, .int .i64 er]) ∧
  ((¬ OkText l ∧ v = .slice none 0 0 ∧ er = 13) ∨ (OkText l ∧ BIG (dval 0 l) ∧ v = .slice none 0 0 ∧ er = 11) ∨ (OkText l ∧ ¬ BIG (dval 0 l) ∧ er = 0 ∧ NumR w' v (dval 0 l)))

theorem rd_at {W : World} {g : Nat} {l : List Nat} (h : W.heap[g]? = some (.cells (U l).toArray 133 (0, 0))) : Rd W (some ⟨g, 0, none⟩) l := by
  have h2 : Blk W g (U l) := h
  exact fun hl => ⟨g, 0, rfl, h2.lt, fun k hk => by rw [Nat.zero_add, h2.cell, U_get _ _ hk]⟩

theorem pow_700 : (10 : Nat) ^ 700 ≤ 4294967296 ^ 100 := of_decide_eq_true (by kernel_rfl)
/-- where the second loop stands -/
def RpRel (l : List UInt8) (w : World) (v4 v6 : Value) (wr : World) : Prop :=
  ∃ (j c : Nat) (A : Option Addr) (r : List Nat), j ≤ l.length ∧ v6 = .int .i64 (j : Int) ∧ v4 = .slice A r.length c ∧ (A = none → r.length = 0 ∧ c = 0) ∧ Rd wr A r ∧ Can r ∧ val r = dval 0 (l.take j) ∧ Below w.heap.size w wr

end LM
end Go.Proofs.YtpaefbojilnnnaaGreatDoor
