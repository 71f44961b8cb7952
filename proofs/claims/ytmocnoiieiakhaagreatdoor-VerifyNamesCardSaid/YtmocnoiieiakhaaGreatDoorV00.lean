/- The closed facts of the statement VerifyNames's row, each by the kernel. -/
import Derived.Test.YtmocnoiieiakhaaGreatDoorRows
import Derived.KernelRfl
import Derived.RowKit
import Derived.ProofKit
import Derived.SevenTiedAt
namespace Go.Proofs.YtmocnoiieiakhaaGreatDoor.verifyNames
open Go Go.RowKit
theorem k_place : (Rows.verifyNamesRow.inPlace == Tryz.prog.inPlace 3) = true := by kernel_rfl
theorem k_unf : (Rows.verifyNamesRow.unfollowed == Tryz.prog.unfollowed 3) = true := by kernel_rfl
theorem k_rec : (Rows.verifyNamesRow.recurses == Tryz.prog.recurses 3) = true := by kernel_rfl
theorem k_named : (Rows.verifyNamesRow.named == Tryz.prog.varsNamed 3) = true := by kernel_rfl
theorem closed : joinedFacts Tryz.prog 3 Tryz.f3 Rows.verifyNamesSpec Rows.verifyNamesRow = true := by
  unfold joinedFacts
  rw [k_place, k_unf, k_rec, k_named]
  kernel_rfl
theorem k_wf : Rows.verifyNamesRow.wfByText (OpenSpec.ofChange Rows.verifyNamesSpec) = true := by kernel_rfl
theorem k_main : Tryz.prog.mainIs = some (true, "2bd61136d233a9408bd6b63b1d4ad9e57ba83e9e5f311d560ef4b17f9fd6aad9".toList) := by kernel_rfl
theorem k_looks : true = Tryz.prog.looks [] := by kernel_rfl
theorem k_goes : false = Rows.verifyNamesRow.goesBy Tryz.prog := by kernel_rfl
end Go.Proofs.YtmocnoiieiakhaaGreatDoor.verifyNames
