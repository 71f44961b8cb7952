/- The closed facts of the statement CodeNames's row, each by the kernel. -/
import Derived.Test.YtdhjbhcfkajfdaaGreatDoorRows
import Derived.KernelRfl
import Derived.RowKit
import Derived.ProofKit
import Derived.SevenTiedAt
namespace Go.Proofs.YtdhjbhcfkajfdaaGreatDoor.codeNames
open Go Go.RowKit
theorem k_place : (Rows.codeNamesRow.inPlace == Tryz.prog.inPlace 3) = true := by kernel_rfl
theorem k_unf : (Rows.codeNamesRow.unfollowed == Tryz.prog.unfollowed 3) = true := by kernel_rfl
theorem k_rec : (Rows.codeNamesRow.recurses == Tryz.prog.recurses 3) = true := by kernel_rfl
theorem k_named : (Rows.codeNamesRow.named == Tryz.prog.varsNamed 3) = true := by kernel_rfl
theorem closed : joinedFacts Tryz.prog 3 Tryz.f3 Rows.codeNamesSpec Rows.codeNamesRow = true := by
  unfold joinedFacts
  rw [k_place, k_unf, k_rec, k_named]
  kernel_rfl
theorem k_wf : Rows.codeNamesRow.wfByText (OpenSpec.ofChange Rows.codeNamesSpec) = true := by kernel_rfl
theorem k_main : Tryz.prog.mainIs = some (true, "73a586b386044b4ccf28f76f92bef32330e5a0743267b9fe9af6fddb71b58660".toList) := by kernel_rfl
theorem k_looks : true = Tryz.prog.looks [] := by kernel_rfl
theorem k_goes : false = Rows.codeNamesRow.goesBy Tryz.prog := by kernel_rfl
end Go.Proofs.YtdhjbhcfkajfdaaGreatDoor.codeNames
