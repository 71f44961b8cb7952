/- The closed facts of the statement FloNear's row, each by the kernel. -/
import Derived.Test.YtpaefbojilnnnaaGreatDoorRows
import Derived.KernelRfl
import Derived.RowKit
import Derived.ProofKit
import Derived.SevenTiedAt
namespace Go.Proofs.YtpaefbojilnnnaaGreatDoor.floNear
open Go Go.RowKit
theorem k_place : (Rows.floNearRow.inPlace == Tryz.prog.inPlace 6) = true := by kernel_rfl
theorem k_unf : (Rows.floNearRow.unfollowed == Tryz.prog.unfollowed 6) = true := by kernel_rfl
theorem k_rec : (Rows.floNearRow.recurses == Tryz.prog.recurses 6) = true := by kernel_rfl
theorem k_named : (Rows.floNearRow.named == Tryz.prog.varsNamed 6) = true := by kernel_rfl
theorem closed : joinedFacts Tryz.prog 6 Tryz.f6 Rows.floNearSpec Rows.floNearRow = true := by
  unfold joinedFacts
  rw [k_place, k_unf, k_rec, k_named]
  kernel_rfl
theorem k_wf : Rows.floNearRow.wfByText (OpenSpec.ofChange Rows.floNearSpec) = true := by kernel_rfl
theorem k_main : Tryz.prog.mainIs = some (true, "d7bc576c0d04c2ec90a3640793790006ce1895e8437b9549cf5c1ecec78797d3".toList) := by kernel_rfl
theorem k_looks : true = Tryz.prog.looks [] := by kernel_rfl
theorem k_goes : false = Rows.floNearRow.goesBy Tryz.prog := by kernel_rfl
end Go.Proofs.YtpaefbojilnnnaaGreatDoor.floNear
