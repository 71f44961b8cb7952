/- The closed facts of the statement DatumNames's row, each by the kernel. -/
import Derived.Test.YtcfhiihhfcnfbaaGreatDoorRows
import Derived.KernelRfl
import Derived.RowKit
import Derived.ProofKit
import Derived.SevenTiedAt
namespace Go.Proofs.YtcfhiihhfcnfbaaGreatDoor.datumNames
open Go Go.RowKit
theorem k_place : (Rows.datumNamesRow.inPlace == Tryz.prog.inPlace 5) = true := by kernel_rfl
theorem k_unf : (Rows.datumNamesRow.unfollowed == Tryz.prog.unfollowed 5) = true := by kernel_rfl
theorem k_rec : (Rows.datumNamesRow.recurses == Tryz.prog.recurses 5) = true := by kernel_rfl
theorem k_named : (Rows.datumNamesRow.named == Tryz.prog.varsNamed 5) = true := by kernel_rfl
theorem closed : joinedFacts Tryz.prog 5 Tryz.f5 Rows.datumNamesSpec Rows.datumNamesRow = true := by
  unfold joinedFacts
  rw [k_place, k_unf, k_rec, k_named]
  kernel_rfl
theorem k_wf : Rows.datumNamesRow.wfByText (OpenSpec.ofChange Rows.datumNamesSpec) = true := by kernel_rfl
theorem k_main : Tryz.prog.mainIs = some (true, "140bc186cd43c27f97d05b3f5e5b1a6c431de2ef3059d97db7746bea3ec3adc5".toList) := by kernel_rfl
theorem k_looks : true = Tryz.prog.looks [] := by kernel_rfl
theorem k_goes : false = Rows.datumNamesRow.goesBy Tryz.prog := by kernel_rfl
end Go.Proofs.YtcfhiihhfcnfbaaGreatDoor.datumNames
