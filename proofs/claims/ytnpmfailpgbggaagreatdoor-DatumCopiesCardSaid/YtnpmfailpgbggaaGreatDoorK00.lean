/- The closed facts of the statement DatumCopies's row, each by the kernel. -/
import Derived.Test.YtnpmfailpgbggaaGreatDoorRows
import Derived.KernelRfl
import Derived.RowKit
import Derived.ProofKit
import Derived.SevenTiedAt
namespace Go.Proofs.YtnpmfailpgbggaaGreatDoor.datumCopies
open Go Go.RowKit
theorem k_place : (Rows.datumCopiesRow.inPlace == Tryz.prog.inPlace 5) = true := by kernel_rfl
theorem k_unf : (Rows.datumCopiesRow.unfollowed == Tryz.prog.unfollowed 5) = true := by kernel_rfl
theorem k_rec : (Rows.datumCopiesRow.recurses == Tryz.prog.recurses 5) = true := by kernel_rfl
theorem k_named : (Rows.datumCopiesRow.named == Tryz.prog.varsNamed 5) = true := by kernel_rfl
theorem closed : joinedFacts Tryz.prog 5 Tryz.f5 Rows.datumCopiesSpec Rows.datumCopiesRow = true := by
  unfold joinedFacts
  rw [k_place, k_unf, k_rec, k_named]
  kernel_rfl
theorem k_wf : Rows.datumCopiesRow.wfByText (OpenSpec.ofChange Rows.datumCopiesSpec) = true := by kernel_rfl
theorem k_main : Tryz.prog.mainIs = some (true, "e698d493ca4607dd70169b23a8728c79ebe652ae7bd9540eed62bd7d02f395a4".toList) := by kernel_rfl
theorem k_looks : true = Tryz.prog.looks [] := by kernel_rfl
theorem k_goes : false = Rows.datumCopiesRow.goesBy Tryz.prog := by kernel_rfl
end Go.Proofs.YtnpmfailpgbggaaGreatDoor.datumCopies
