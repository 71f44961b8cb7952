/- The closed facts of the statement TowerNames's row, each by the kernel. -/
import Derived.Test.YtpaefbojilnnnaaGreatDoorRows
import Derived.KernelRfl
import Derived.RowKit
import Derived.ProofKit
import Derived.SevenTiedAt
namespace Go.Proofs.YtpaefbojilnnnaaGreatDoor.towerNames
open Go Go.RowKit
theorem k_place : (Rows.towerNamesRow.inPlace == Tryz.prog.inPlace 7) = true := by kernel_rfl
theorem k_unf : (Rows.towerNamesRow.unfollowed == Tryz.prog.unfollowed 7) = true := by kernel_rfl
theorem k_rec : (Rows.towerNamesRow.recurses == Tryz.prog.recurses 7) = true := by kernel_rfl
theorem k_named : (Rows.towerNamesRow.named == Tryz.prog.varsNamed 7) = true := by kernel_rfl
theorem closed : joinedFacts Tryz.prog 7 Tryz.f7 Rows.towerNamesSpec Rows.towerNamesRow = true := by
  unfold joinedFacts
  rw [k_place, k_unf, k_rec, k_named]
  kernel_rfl
theorem k_wf : Rows.towerNamesRow.wfByText (OpenSpec.ofChange Rows.towerNamesSpec) = true := by kernel_rfl
theorem k_main : Tryz.prog.mainIs = some (true, "d7bc576c0d04c2ec90a3640793790006ce1895e8437b9549cf5c1ecec78797d3".toList) := by kernel_rfl
theorem k_looks : true = Tryz.prog.looks [] := by kernel_rfl
theorem k_goes : false = Rows.towerNamesRow.goesBy Tryz.prog := by kernel_rfl
end Go.Proofs.YtpaefbojilnnnaaGreatDoor.towerNames
