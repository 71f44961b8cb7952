/- The closed facts of the statement FloTexts's row, each by the kernel. -/
import Derived.Test.YtpnjddfnlaonoaaGreatDoorRows
import Derived.KernelRfl
import Derived.RowKit
import Derived.ProofKit
import Derived.SevenTiedAt
namespace Go.Proofs.YtpnjddfnlaonoaaGreatDoor.floTexts
open Go Go.RowKit
theorem k_place : (Rows.floTextsRow.inPlace == Tryz.prog.inPlace 3) = true := by kernel_rfl
theorem k_unf : (Rows.floTextsRow.unfollowed == Tryz.prog.unfollowed 3) = true := by kernel_rfl
theorem k_rec : (Rows.floTextsRow.recurses == Tryz.prog.recurses 3) = true := by kernel_rfl
theorem k_named : (Rows.floTextsRow.named == Tryz.prog.varsNamed 3) = true := by kernel_rfl
theorem closed : joinedFacts Tryz.prog 3 Tryz.f3 Rows.floTextsSpec Rows.floTextsRow = true := by
  unfold joinedFacts
  rw [k_place, k_unf, k_rec, k_named]
  kernel_rfl
theorem k_wf : Rows.floTextsRow.wfByText (OpenSpec.ofChange Rows.floTextsSpec) = true := by kernel_rfl
theorem k_main : Tryz.prog.mainIs = some (true, "c5f3f64850e3a6c825c7f8014cdeec3ebfb7d228373cbbe5cee2b3be864a7f17".toList) := by kernel_rfl
theorem k_looks : true = Tryz.prog.looks [] := by kernel_rfl
theorem k_goes : false = Rows.floTextsRow.goesBy Tryz.prog := by kernel_rfl
end Go.Proofs.YtpnjddfnlaonoaaGreatDoor.floTexts
