/- The closed facts of the statement DatumMakes's row, each by the kernel. -/
import Derived.Test.YtnpmfailpgbggaaGreatDoorRows
import Derived.KernelRfl
import Derived.RowKit
import Derived.ProofKit
import Derived.SevenTiedAt
namespace Go.Proofs.YtnpmfailpgbggaaGreatDoor.datumMakes
open Go Go.RowKit
theorem k_place : (Rows.datumMakesRow.inPlace == Tryz.prog.inPlace 4) = true := by kernel_rfl
theorem k_unf : (Rows.datumMakesRow.unfollowed == Tryz.prog.unfollowed 4) = true := by kernel_rfl
theorem k_rec : (Rows.datumMakesRow.recurses == Tryz.prog.recurses 4) = true := by kernel_rfl
theorem k_named : (Rows.datumMakesRow.named == Tryz.prog.varsNamed 4) = true := by kernel_rfl
theorem closed : joinedFacts Tryz.prog 4 Tryz.f4 Rows.datumMakesSpec Rows.datumMakesRow = true := by
  unfold joinedFacts
  rw [k_place, k_unf, k_rec, k_named]
  kernel_rfl
theorem k_wf : Rows.datumMakesRow.wfByText (OpenSpec.ofChange Rows.datumMakesSpec) = true := by kernel_rfl
theorem k_main : Tryz.prog.mainIs = some (true, "e698d493ca4607dd70169b23a8728c79ebe652ae7bd9540eed62bd7d02f395a4".toList) := by kernel_rfl
theorem k_looks : true = Tryz.prog.looks [] := by kernel_rfl
theorem k_goes : false = Rows.datumMakesRow.goesBy Tryz.prog := by kernel_rfl
end Go.Proofs.YtnpmfailpgbggaaGreatDoor.datumMakes
