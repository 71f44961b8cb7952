/- The closed facts of the statement TowerOrders's row, each by the kernel. -/
import Derived.Test.YtpaefbojilnnnaaGreatDoorRows
import Derived.KernelRfl
import Derived.RowKit
import Derived.ProofKit
import Derived.SevenTiedAt
namespace Go.Proofs.YtpaefbojilnnnaaGreatDoor.towerOrders
open Go Go.RowKit
theorem k_place : (Rows.towerOrdersRow.inPlace == Tryz.prog.inPlace 9) = true := by kernel_rfl
theorem k_unf : (Rows.towerOrdersRow.unfollowed == Tryz.prog.unfollowed 9) = true := by kernel_rfl
theorem k_rec : (Rows.towerOrdersRow.recurses == Tryz.prog.recurses 9) = true := by kernel_rfl
theorem k_named : (Rows.towerOrdersRow.named == Tryz.prog.varsNamed 9) = true := by kernel_rfl
theorem closed : joinedFacts Tryz.prog 9 Tryz.f9 Rows.towerOrdersSpec Rows.towerOrdersRow = true := by
  unfold joinedFacts
  rw [k_place, k_unf, k_rec, k_named]
  kernel_rfl
theorem k_wf : Rows.towerOrdersRow.wfByText (OpenSpec.ofChange Rows.towerOrdersSpec) = true := by kernel_rfl
theorem k_main : Tryz.prog.mainIs = some (true, "d7bc576c0d04c2ec90a3640793790006ce1895e8437b9549cf5c1ecec78797d3".toList) := by kernel_rfl
theorem k_looks : true = Tryz.prog.looks [] := by kernel_rfl
theorem k_goes : false = Rows.towerOrdersRow.goesBy Tryz.prog := by kernel_rfl
end Go.Proofs.YtpaefbojilnnnaaGreatDoor.towerOrders
