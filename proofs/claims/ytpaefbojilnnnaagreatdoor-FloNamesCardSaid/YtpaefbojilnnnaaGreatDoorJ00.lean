/- The closed facts of the statement FloNames's row, each by the kernel. -/
import Derived.Test.YtpaefbojilnnnaaGreatDoorRows
import Derived.KernelRfl
import Derived.RowKit
import Derived.ProofKit
namespace Go.Proofs.YtpaefbojilnnnaaGreatDoor.floNames
open Go Go.RowKit
theorem k_place : (Rows.floNamesRow.inPlace == Tryz.prog.inPlace 3) = true := by kernel_rfl
theorem k_unf : (Rows.floNamesRow.unfollowed == Tryz.prog.unfollowed 3) = true := by kernel_rfl
theorem k_rec : (Rows.floNamesRow.recurses == Tryz.prog.recurses 3) = true := by kernel_rfl
theorem k_named : (Rows.floNamesRow.named == Tryz.prog.varsNamed 3) = true := by kernel_rfl
theorem closed : joinedFacts Tryz.prog 3 Tryz.f3 Rows.floNamesSpec Rows.floNamesRow = true := by
  unfold joinedFacts
  rw [k_place, k_unf, k_rec, k_named]
  kernel_rfl
end Go.Proofs.YtpaefbojilnnnaaGreatDoor.floNames
