/- The entries of the library that the model has of its own: a floating number's bits, whole numbers near it. -/
import Derived.Test.YtdhjbhcfkajfdaaGreatDoorProg
import Derived.Test.YtdhjbhcfkajfdaaGreatDoorC23
import Derived.WalkKit
import Derived.WalkLawsBesides
import Derived.Laws.Externs
import Derived.KernelRfl
import Derived.Handy
namespace Go.Proofs.YtdhjbhcfkajfdaaGreatDoor
open Go Go.RowKit
namespace LM
set_option linter.unusedVariables false

theorem run_mbits (b : Nat) (W : World) : (callFunc 120 #[.float .f64 b]).run Tryz.prog W = .ok (.value (.int .u64 (b : Int))) W := by
  rw [run_callFunc_extern Tryz.func120 (by kernel_rfl) (by kernel_rfl) (e := Extern.MathFloatBits.float64bits) (by kernel_rfl) (by kernel_rfl)]
  rfl
end LM
end Go.Proofs.YtdhjbhcfkajfdaaGreatDoor
