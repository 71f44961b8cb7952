/- The closed facts of the statement TowerChain's row, each by the kernel. -/
import Derived.Test.YtcfhiihhfcnfbaaGreatDoorRows
import Derived.KernelRfl
import Derived.RowKit
import Derived.ProofKit
import Derived.SevenTiedAt
namespace Go.Proofs.YtcfhiihhfcnfbaaGreatDoor.towerChain
open Go Go.RowKit
theorem k_place : (Rows.towerChainRow.inPlace == Tryz.prog.inPlace 4) = true := by kernel_rfl
theorem k_unf : (Rows.towerChainRow.unfollowed == Tryz.prog.unfollowed 4) = true := by kernel_rfl
theorem k_rec : (Rows.towerChainRow.recurses == Tryz.prog.recurses 4) = true := by kernel_rfl
theorem k_named : (Rows.towerChainRow.named == Tryz.prog.varsNamed 4) = true := by kernel_rfl
theorem closed : joinedFacts Tryz.prog 4 Tryz.f4 Rows.towerChainSpec Rows.towerChainRow = true := by
  unfold joinedFacts
  rw [k_place, k_unf, k_rec, k_named]
  kernel_rfl
theorem k_wf : Rows.towerChainRow.wfByText (OpenSpec.ofChange Rows.towerChainSpec) = true := by kernel_rfl
theorem k_main : Tryz.prog.mainIs = some (true, "140bc186cd43c27f97d05b3f5e5b1a6c431de2ef3059d97db7746bea3ec3adc5".toList) := by kernel_rfl
theorem k_looks : true = Tryz.prog.looks [] := by kernel_rfl
theorem k_goes : false = Rows.towerChainRow.goesBy Tryz.prog := by kernel_rfl
end Go.Proofs.YtcfhiihhfcnfbaaGreatDoor.towerChain
