/- The entries of the library that the model has of its own: a floating number's bits, whole numbers near it. -/
import Derived.Test.YtpaefbojilnnnaaGreatDoorProg
import Derived.Test.YtpaefbojilnnnaaGreatDoorJ05
import Derived.WalkKit
import Derived.WalkLawsBesides
import Derived.Laws.Externs
import Derived.KernelRfl
import Derived.Handy
namespace Go.Proofs.YtpaefbojilnnnaaGreatDoor
open Go Go.RowKit
namespace LM
set_option linter.unusedVariables false

theorem run_sbits (b : Nat) (W : World) : (callFunc 235 #[.float .f64 b]).run Tryz.prog W = .ok (.value (.int .u64 (b : Int))) W := by
  rw [run_callFunc_extern Tryz.func235 (by kernel_rfl) (by kernel_rfl) (e := Extern.MathFloatBits.float64bits) (by kernel_rfl) (by kernel_rfl)]
  rfl
theorem run_mbits (b : Nat) (W : World) : (callFunc 53 #[.float .f64 b]).run Tryz.prog W = .ok (.value (.int .u64 (b : Int))) W := by
  rw [run_callFunc_extern Tryz.func53 (by kernel_rfl) (by kernel_rfl) (e := Extern.MathFloatBits.float64bits) (by kernel_rfl) (by kernel_rfl)]
  rfl
theorem run_sfrom (b : Nat) (W : World) : (callFunc 281 #[.int .u64 (b : Int)]).run Tryz.prog W = .ok (.value (.float .f64 b)) W := by
  rw [run_callFunc_extern Tryz.func281 (by kernel_rfl) (by kernel_rfl) (e := Extern.MathFloatBits.float64frombits) (by kernel_rfl) (by kernel_rfl)]
  rfl
theorem run_mfrom (b : Nat) (W : World) : (callFunc 18 #[.int .u64 (b : Int)]).run Tryz.prog W = .ok (.value (.float .f64 b)) W := by
  rw [run_callFunc_extern Tryz.func18 (by kernel_rfl) (by kernel_rfl) (e := Extern.MathFloatBits.float64frombits) (by kernel_rfl) (by kernel_rfl)]
  rfl

end LM
end Go.Proofs.YtpaefbojilnnnaaGreatDoor
