/- The bits of a decimal, as a function; what the package variables hold for it; a scope with jumps ahead to several labels. -/
import Derived.Test.YtdhjbhcfkajfdaaGreatDoorProg
import Derived.Test.YtdhjbhcfkajfdaaGreatDoorC02
import Derived.Handy
import Derived.Deep.LoopGhost
import Derived.Deep.QuietTactic
import Derived.BigQuiet
import Derived.Outline
import Derived.Test.YtdhjbhcfkajfdaaGreatDoorC01
import Derived.Deep.DeepCutAuto
import Derived.Deep.CutBlock
import Derived.Laws.BitsAllLaws
import Derived.StillTailTactics
import GoSem.PinnedTables
import Derived.ScopeJumps
namespace Go.Proofs.YtdhjbhcfkajfdaaGreatDoor
open Go Go.RowKit
namespace LM
set_option linter.unusedVariables false

/-- the library's table of the digits that a shift adds -/
def CT (w : World) : Prop := ∃ b n c, w.cell? ⟨10, 0, none⟩ = some (.slice (some ⟨b, n, none⟩) 61 c) ∧ b < w.heap.size ∧ ∀ (k : Nat) x, Go.Pinned.cheatRows[k]? = some x → w.cell? ⟨b, n + k * 2, none⟩ = some (.int .i64 ((x.1 : Nat) : Int)) ∧ w.cell? ⟨b, n + k * 2 + 1, none⟩ = some (.string ⟨x.2.toArray⟩)
end LM
end Go.Proofs.YtdhjbhcfkajfdaaGreatDoor

namespace Go.Proofs.YtdhjbhcfkajfdaaGreatDoor
open Go Go.RowKit
namespace LM
set_option linter.unusedVariables false

end LM
end Go.Proofs.YtdhjbhcfkajfdaaGreatDoor

namespace Go.Proofs.YtdhjbhcfkajfdaaGreatDoor
open Go Go.RowKit
namespace LM
set_option linter.unusedVariables false

/-! jumps ahead -/
section
variable {P : Program} {a : Act} {w : World} {Q : Exit → Act → World → Prop}
end
/-! the bits -/
def fbOut (m : Nat) (e : Int) (neg : Bool) : Nat := (m % 4503599627370496 ||| (e + 1023).toNat % 2048 * 4503599627370496) ||| (if neg then 9223372036854775808 else 0)
/-! what the variables hold -/
def powtabL : List Nat := [1, 3, 6, 9, 13, 16, 19, 23, 26]
structure FX (w : World) : Prop where
  ct : CT w
  pw : ∃ b n c, w.cell? ⟨15, 0, none⟩ = some (.slice (some ⟨b, n, none⟩) 9 c) ∧ b < w.heap.size ∧ ∀ (j : Nat) x, powtabL[j]? = some x → w.cell? ⟨b, n + j, none⟩ = some (.int .i64 ((x : Nat) : Int))
  i0 : w.cell? ⟨12, 0, none⟩ = some (.int .u64 52)
  i1 : w.cell? ⟨12, 1, none⟩ = some (.int .u64 11)
  i2 : w.cell? ⟨12, 2, none⟩ = some (.int .i64 (-1023))
  size : 10 < w.heap.size ∧ 15 < w.heap.size ∧ 12 < w.heap.size
end LM
end Go.Proofs.YtdhjbhcfkajfdaaGreatDoor
