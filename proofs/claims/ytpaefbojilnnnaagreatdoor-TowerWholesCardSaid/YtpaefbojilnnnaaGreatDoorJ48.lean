/- The closed facts of the statement TowerWholes's row, each by the kernel. -/
import Derived.Test.YtpaefbojilnnnaaGreatDoorRows
import Derived.KernelRfl
import Derived.RowKit
import Derived.ProofKit
import Derived.SevenTiedAt
namespace Go.Proofs.YtpaefbojilnnnaaGreatDoor.towerWholes
open Go Go.RowKit
theorem k_place : (Rows.towerWholesRow.inPlace == Tryz.prog.inPlace 8) = true := by kernel_rfl
theorem k_unf : (Rows.towerWholesRow.unfollowed == Tryz.prog.unfollowed 8) = true := by kernel_rfl
theorem k_rec : (Rows.towerWholesRow.recurses == Tryz.prog.recurses 8) = true := by kernel_rfl
theorem k_named : (Rows.towerWholesRow.named == Tryz.prog.varsNamed 8) = true := by kernel_rfl
theorem closed : joinedFacts Tryz.prog 8 Tryz.f8 Rows.towerWholesSpec Rows.towerWholesRow = true := by
  unfold joinedFacts
  rw [k_place, k_unf, k_rec, k_named]
  kernel_rfl
theorem k_wf : Rows.towerWholesRow.wfByText (OpenSpec.ofChange Rows.towerWholesSpec) = true := by kernel_rfl
theorem k_main : Tryz.prog.mainIs = some (true, "d7bc576c0d04c2ec90a3640793790006ce1895e8437b9549cf5c1ecec78797d3".toList) := by kernel_rfl
theorem k_looks : true = Tryz.prog.looks [] := by kernel_rfl
theorem k_goes : false = Rows.towerWholesRow.goesBy Tryz.prog := by kernel_rfl
end Go.Proofs.YtpaefbojilnnnaaGreatDoor.towerWholes
