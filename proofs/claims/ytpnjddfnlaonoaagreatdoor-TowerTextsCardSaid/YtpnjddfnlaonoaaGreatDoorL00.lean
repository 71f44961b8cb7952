/- The closed facts of the statement TowerTexts's row, each by the kernel. -/
import Derived.Test.YtpnjddfnlaonoaaGreatDoorRows
import Derived.KernelRfl
import Derived.RowKit
import Derived.ProofKit
import Derived.SevenTiedAt
namespace Go.Proofs.YtpnjddfnlaonoaaGreatDoor.towerTexts
open Go Go.RowKit
theorem k_place : (Rows.towerTextsRow.inPlace == Tryz.prog.inPlace 4) = true := by kernel_rfl
theorem k_unf : (Rows.towerTextsRow.unfollowed == Tryz.prog.unfollowed 4) = true := by kernel_rfl
theorem k_rec : (Rows.towerTextsRow.recurses == Tryz.prog.recurses 4) = true := by kernel_rfl
theorem k_named : (Rows.towerTextsRow.named == Tryz.prog.varsNamed 4) = true := by kernel_rfl
theorem closed : joinedFacts Tryz.prog 4 Tryz.f4 Rows.towerTextsSpec Rows.towerTextsRow = true := by
  unfold joinedFacts
  rw [k_place, k_unf, k_rec, k_named]
  kernel_rfl
theorem k_wf : Rows.towerTextsRow.wfByText (OpenSpec.ofChange Rows.towerTextsSpec) = true := by kernel_rfl
theorem k_main : Tryz.prog.mainIs = some (true, "c5f3f64850e3a6c825c7f8014cdeec3ebfb7d228373cbbe5cee2b3be864a7f17".toList) := by kernel_rfl
theorem k_looks : true = Tryz.prog.looks [] := by kernel_rfl
theorem k_goes : false = Rows.towerTextsRow.goesBy Tryz.prog := by kernel_rfl
end Go.Proofs.YtpnjddfnlaonoaaGreatDoor.towerTexts
