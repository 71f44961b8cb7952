/- The closed facts of the statement DatumWords's row, each by the kernel. -/
import Derived.Test.YtpnjddfnlaonoaaGreatDoorRows
import Derived.KernelRfl
import Derived.RowKit
import Derived.ProofKit
import Derived.SevenTiedAt
namespace Go.Proofs.YtpnjddfnlaonoaaGreatDoor.datumWords
open Go Go.RowKit
theorem k_place : (Rows.datumWordsRow.inPlace == Tryz.prog.inPlace 5) = true := by kernel_rfl
theorem k_unf : (Rows.datumWordsRow.unfollowed == Tryz.prog.unfollowed 5) = true := by kernel_rfl
theorem k_rec : (Rows.datumWordsRow.recurses == Tryz.prog.recurses 5) = true := by kernel_rfl
theorem k_named : (Rows.datumWordsRow.named == Tryz.prog.varsNamed 5) = true := by kernel_rfl
theorem closed : joinedFacts Tryz.prog 5 Tryz.f5 Rows.datumWordsSpec Rows.datumWordsRow = true := by
  unfold joinedFacts
  rw [k_place, k_unf, k_rec, k_named]
  kernel_rfl
theorem k_wf : Rows.datumWordsRow.wfByText (OpenSpec.ofChange Rows.datumWordsSpec) = true := by kernel_rfl
theorem k_main : Tryz.prog.mainIs = some (true, "c5f3f64850e3a6c825c7f8014cdeec3ebfb7d228373cbbe5cee2b3be864a7f17".toList) := by kernel_rfl
theorem k_looks : true = Tryz.prog.looks [] := by kernel_rfl
theorem k_goes : false = Rows.datumWordsRow.goesBy Tryz.prog := by kernel_rfl
end Go.Proofs.YtpnjddfnlaonoaaGreatDoor.datumWords
