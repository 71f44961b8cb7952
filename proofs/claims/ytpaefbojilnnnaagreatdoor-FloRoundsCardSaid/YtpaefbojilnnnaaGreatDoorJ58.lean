/- The closed facts of the statement FloRounds's row, each by the kernel. -/
import Derived.Test.YtpaefbojilnnnaaGreatDoorRows
import Derived.KernelRfl
import Derived.RowKit
import Derived.ProofKit
import Derived.SevenTiedAt
namespace Go.Proofs.YtpaefbojilnnnaaGreatDoor.floRounds
open Go Go.RowKit
theorem k_place : (Rows.floRoundsRow.inPlace == Tryz.prog.inPlace 4) = true := by kernel_rfl
theorem k_unf : (Rows.floRoundsRow.unfollowed == Tryz.prog.unfollowed 4) = true := by kernel_rfl
theorem k_rec : (Rows.floRoundsRow.recurses == Tryz.prog.recurses 4) = true := by kernel_rfl
theorem k_named : (Rows.floRoundsRow.named == Tryz.prog.varsNamed 4) = true := by kernel_rfl
theorem closed : joinedFacts Tryz.prog 4 Tryz.f4 Rows.floRoundsSpec Rows.floRoundsRow = true := by
  unfold joinedFacts
  rw [k_place, k_unf, k_rec, k_named]
  kernel_rfl
theorem k_wf : Rows.floRoundsRow.wfByText (OpenSpec.ofChange Rows.floRoundsSpec) = true := by kernel_rfl
theorem k_main : Tryz.prog.mainIs = some (true, "d7bc576c0d04c2ec90a3640793790006ce1895e8437b9549cf5c1ecec78797d3".toList) := by kernel_rfl
theorem k_looks : true = Tryz.prog.looks [] := by kernel_rfl
theorem k_goes : false = Rows.floRoundsRow.goesBy Tryz.prog := by kernel_rfl
end Go.Proofs.YtpaefbojilnnnaaGreatDoor.floRounds
