/- The closed facts of the statement DatumTells's row, each by the kernel. -/
import Derived.Test.YtnpmfailpgbggaaGreatDoorRows
import Derived.KernelRfl
import Derived.RowKit
import Derived.ProofKit
import Derived.SevenTiedAt
namespace Go.Proofs.YtnpmfailpgbggaaGreatDoor.datumTells
open Go Go.RowKit
theorem k_place : (Rows.datumTellsRow.inPlace == Tryz.prog.inPlace 3) = true := by kernel_rfl
theorem k_unf : (Rows.datumTellsRow.unfollowed == Tryz.prog.unfollowed 3) = true := by kernel_rfl
theorem k_rec : (Rows.datumTellsRow.recurses == Tryz.prog.recurses 3) = true := by kernel_rfl
theorem k_named : (Rows.datumTellsRow.named == Tryz.prog.varsNamed 3) = true := by kernel_rfl
theorem closed : joinedFacts Tryz.prog 3 Tryz.f3 Rows.datumTellsSpec Rows.datumTellsRow = true := by
  unfold joinedFacts
  rw [k_place, k_unf, k_rec, k_named]
  kernel_rfl
theorem k_wf : Rows.datumTellsRow.wfByText (OpenSpec.ofChange Rows.datumTellsSpec) = true := by kernel_rfl
theorem k_main : Tryz.prog.mainIs = some (true, "e698d493ca4607dd70169b23a8728c79ebe652ae7bd9540eed62bd7d02f395a4".toList) := by kernel_rfl
theorem k_looks : true = Tryz.prog.looks [] := by kernel_rfl
theorem k_goes : false = Rows.datumTellsRow.goesBy Tryz.prog := by kernel_rfl
end Go.Proofs.YtnpmfailpgbggaaGreatDoor.datumTells
