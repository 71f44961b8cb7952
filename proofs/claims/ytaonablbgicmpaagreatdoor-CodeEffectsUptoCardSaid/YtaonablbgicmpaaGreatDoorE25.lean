import Derived.Test.YtaonablbgicmpaaGreatDoorProg
import Derived.Test.YtaonablbgicmpaaGreatDoorE22
import Derived.WalkKit
import Derived.WalkLawsBesides
import Derived.Laws.Externs
import Derived.KernelRfl
import Derived.Handy
set_option linter.unusedVariables false
set_option linter.unusedSimpArgs false
set_option maxRecDepth 100000
set_option maxHeartbeats 16000000
namespace Go.Proofs.YtaonablbgicmpaaGreatDoor
open Go Go.RowKit
namespace LM
theorem run_sbits (b : Nat) (W : World) : (callFunc 207 #[.float .f64 b]).run Tryz.prog W = .ok (.value (.int .u64 (b : Int))) W:=by
 rw [run_callFunc_extern Tryz.func207 (by kernel_rfl) (by kernel_rfl) (e:=Extern.MathFloatBits.float64bits) (by kernel_rfl) (by kernel_rfl)]
 rfl
theorem run_mbits (b : Nat) (W : World) : (callFunc 82 #[.float .f64 b]).run Tryz.prog W = .ok (.value (.int .u64 (b : Int))) W:=by
 rw [run_callFunc_extern Tryz.func82 (by kernel_rfl) (by kernel_rfl) (e:=Extern.MathFloatBits.float64bits) (by kernel_rfl) (by kernel_rfl)]
 rfl
theorem run_sfrom (b : Nat) (W : World) : (callFunc 331 #[.int .u64 (b : Int)]).run Tryz.prog W = .ok (.value (.float .f64 b)) W:=by
 rw [run_callFunc_extern Tryz.func331 (by kernel_rfl) (by kernel_rfl) (e:=Extern.MathFloatBits.float64frombits) (by kernel_rfl) (by kernel_rfl)]
 rfl
theorem run_mfrom (b : Nat) (W : World) : (callFunc 124 #[.int .u64 (b : Int)]).run Tryz.prog W = .ok (.value (.float .f64 b)) W:=by
 rw [run_callFunc_extern Tryz.func124 (by kernel_rfl) (by kernel_rfl) (e:=Extern.MathFloatBits.float64frombits) (by kernel_rfl) (by kernel_rfl)]
 rfl
end LM
end Go.Proofs.YtaonablbgicmpaaGreatDoor
