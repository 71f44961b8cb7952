/- The closed facts of the statement VerifyRoom's row, each by the kernel. -/
import Derived.Test.YtihbgghlnppkiaaGreatDoorRows
import Derived.KernelRfl
import Derived.RowKit
import Derived.ProofKit
import Derived.SevenTiedAt
namespace Go.Proofs.YtihbgghlnppkiaaGreatDoor.verifyRoom
open Go Go.RowKit
theorem k_place : (Rows.verifyRoomRow.inPlace == Tryz.prog.inPlace 3) = true := by kernel_rfl
theorem k_unf : (Rows.verifyRoomRow.unfollowed == Tryz.prog.unfollowed 3) = true := by kernel_rfl
theorem k_rec : (Rows.verifyRoomRow.recurses == Tryz.prog.recurses 3) = true := by kernel_rfl
theorem k_named : (Rows.verifyRoomRow.named == Tryz.prog.varsNamed 3) = true := by kernel_rfl
theorem closed : joinedFacts Tryz.prog 3 Tryz.f3 Rows.verifyRoomSpec Rows.verifyRoomRow = true := by
  unfold joinedFacts
  rw [k_place, k_unf, k_rec, k_named]
  kernel_rfl
theorem k_wf : Rows.verifyRoomRow.wfByText (OpenSpec.ofChange Rows.verifyRoomSpec) = true := by kernel_rfl
theorem k_main : Tryz.prog.mainIs = some (true, "0f9a715f1b7c657d9818b75cd4c27dd0748c8c9b51c9a63462ca31be960f33e8".toList) := by kernel_rfl
theorem k_looks : true = Tryz.prog.looks [] := by kernel_rfl
theorem k_goes : false = Rows.verifyRoomRow.goesBy Tryz.prog := by kernel_rfl
end Go.Proofs.YtihbgghlnppkiaaGreatDoor.verifyRoom
