import Derived.Test.YtnpmfailpgbggaaGreatDoorProg
import Derived.Test.YtnpmfailpgbggaaGreatDoorT23
import Derived.WalkKit
import Derived.WalkLawsBesides
import Derived.Laws.Externs
import Derived.KernelRfl
import Derived.Handy
set_option linter.unusedVariables false
set_option linter.unusedSimpArgs false
set_option maxRecDepth 100000
set_option maxHeartbeats 16000000
namespace Go.Proofs.YtnpmfailpgbggaaGreatDoor
open Go Go.RowKit
namespace LM
theorem run_sbits (b : Nat) (W : World) : (callFunc 187 #[.float .f64 b]).run Tryz.prog W = .ok (.value (.int .u64 (b : Int))) W:=by
  rw [run_callFunc_extern Tryz.func187 (by kernel_rfl) (by kernel_rfl) (e:=Extern.MathFloatBits.float64bits) (by kernel_rfl) (by kernel_rfl)]
  rfl
theorem run_mbits (b : Nat) (W : World) : (callFunc 88 #[.float .f64 b]).run Tryz.prog W = .ok (.value (.int .u64 (b : Int))) W:=by
  rw [run_callFunc_extern Tryz.func88 (by kernel_rfl) (by kernel_rfl) (e:=Extern.MathFloatBits.float64bits) (by kernel_rfl) (by kernel_rfl)]
  rfl
theorem run_sfrom (b : Nat) (W : World) : (callFunc 263 #[.int .u64 (b : Int)]).run Tryz.prog W = .ok (.value (.float .f64 b)) W:=by
  rw [run_callFunc_extern Tryz.func263 (by kernel_rfl) (by kernel_rfl) (e:=Extern.MathFloatBits.float64frombits) (by kernel_rfl) (by kernel_rfl)]
  rfl
theorem run_mfrom (b : Nat) (W : World) : (callFunc 124 #[.int .u64 (b : Int)]).run Tryz.prog W = .ok (.value (.float .f64 b)) W:=by
  rw [run_callFunc_extern Tryz.func124 (by kernel_rfl) (by kernel_rfl) (e:=Extern.MathFloatBits.float64frombits) (by kernel_rfl) (by kernel_rfl)]
  rfl
end LM
end Go.Proofs.YtnpmfailpgbggaaGreatDoor
