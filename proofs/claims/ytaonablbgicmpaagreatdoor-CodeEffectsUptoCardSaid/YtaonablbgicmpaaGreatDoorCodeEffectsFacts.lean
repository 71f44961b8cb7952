/- The closed facts of the statement CodeEffects's row, each by the kernel. -/
import Derived.Test.YtaonablbgicmpaaGreatDoorRows
import Derived.KernelRfl
import Derived.RowKit
import Derived.ProofKit
import Derived.SevenTiedAt
namespace Go.Proofs.YtaonablbgicmpaaGreatDoor.codeEffects
open Go Go.RowKit
theorem k_place : (Rows.codeEffectsUptoRow.inPlace == Tryz.prog.inPlace 3) = true := by kernel_rfl
theorem k_unf : (Rows.codeEffectsUptoRow.unfollowed == Tryz.prog.unfollowed 3) = true := by kernel_rfl
theorem k_rec : (Rows.codeEffectsUptoRow.recurses == Tryz.prog.recurses 3) = true := by kernel_rfl
theorem k_named : (Rows.codeEffectsUptoRow.named == Tryz.prog.varsNamed 3) = true := by kernel_rfl
theorem closed : joinedFacts Tryz.prog 3 Tryz.f3 (Rows.OpenSpec.upto Rows.codeEffectsSpec).bare Rows.codeEffectsUptoRow = true := by
  unfold joinedFacts
  rw [k_place, k_unf, k_rec, k_named]
  kernel_rfl
theorem k_wf : Rows.codeEffectsUptoRow.wfByText (Rows.OpenSpec.upto Rows.codeEffectsSpec) = true := by kernel_rfl
theorem k_main : Tryz.prog.mainIs = some (true, "de3dce90823a865727920d4f8bf06727bdeabad24eed44687cc2e70628531b82".toList) := by kernel_rfl
theorem k_looks : true = Tryz.prog.looks [] := by kernel_rfl
theorem k_goes : false = Rows.codeEffectsUptoRow.goesBy Tryz.prog := by kernel_rfl
end Go.Proofs.YtaonablbgicmpaaGreatDoor.codeEffects
