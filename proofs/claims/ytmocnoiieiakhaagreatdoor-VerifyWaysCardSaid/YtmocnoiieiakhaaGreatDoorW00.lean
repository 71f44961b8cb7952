/- The closed facts of the statement VerifyWays's row, each by the kernel. -/
import Derived.Test.YtmocnoiieiakhaaGreatDoorRows
import Derived.KernelRfl
import Derived.RowKit
import Derived.ProofKit
import Derived.SevenTiedAt
namespace Go.Proofs.YtmocnoiieiakhaaGreatDoor.verifyWays
open Go Go.RowKit
theorem k_place : (Rows.verifyWaysRow.inPlace == Tryz.prog.inPlace 4) = true := by kernel_rfl
theorem k_unf : (Rows.verifyWaysRow.unfollowed == Tryz.prog.unfollowed 4) = true := by kernel_rfl
theorem k_rec : (Rows.verifyWaysRow.recurses == Tryz.prog.recurses 4) = true := by kernel_rfl
theorem k_named : (Rows.verifyWaysRow.named == Tryz.prog.varsNamed 4) = true := by kernel_rfl
theorem closed : joinedFacts Tryz.prog 4 Tryz.f4 Rows.verifyWaysSpec Rows.verifyWaysRow = true := by
  unfold joinedFacts
  rw [k_place, k_unf, k_rec, k_named]
  kernel_rfl
theorem k_wf : Rows.verifyWaysRow.wfByText (OpenSpec.ofChange Rows.verifyWaysSpec) = true := by kernel_rfl
theorem k_main : Tryz.prog.mainIs = some (true, "2bd61136d233a9408bd6b63b1d4ad9e57ba83e9e5f311d560ef4b17f9fd6aad9".toList) := by kernel_rfl
theorem k_looks : true = Tryz.prog.looks [] := by kernel_rfl
theorem k_goes : false = Rows.verifyWaysRow.goesBy Tryz.prog := by kernel_rfl
end Go.Proofs.YtmocnoiieiakhaaGreatDoor.verifyWays
