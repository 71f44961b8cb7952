import Derived.Test.YtihbgghlnppkiaaGreatDoorProg
import Derived.Test.YtihbgghlnppkiaaGreatDoorR28
import Derived.WalkKit
import Derived.WalkLawsBesides
import Derived.Laws.Externs
import Derived.KernelRfl
import Derived.Handy
set_option linter.unusedVariables false
set_option linter.unusedSimpArgs false
set_option maxRecDepth 100000
set_option maxHeartbeats 16000000
namespace Go.Proofs.YtihbgghlnppkiaaGreatDoor
open Go Go.RowKit
namespace LM
theorem run_sbits (b : Nat) (W : World) : (callFunc 169 #[.float .f64 b]).run Tryz.prog W = .ok (.value (.int .u64 (b : Int))) W:=by
  rw [run_callFunc_extern Tryz.func169 (by kernel_rfl) (by kernel_rfl) (e:=Extern.MathFloatBits.float64bits) (by kernel_rfl) (by kernel_rfl)]
  rfl
theorem run_mbits (b : Nat) (W : World) : (callFunc 110 #[.float .f64 b]).run Tryz.prog W = .ok (.value (.int .u64 (b : Int))) W:=by
  rw [run_callFunc_extern Tryz.func110 (by kernel_rfl) (by kernel_rfl) (e:=Extern.MathFloatBits.float64bits) (by kernel_rfl) (by kernel_rfl)]
  rfl
theorem run_sfrom (b : Nat) (W : World) : (callFunc 240 #[.int .u64 (b : Int)]).run Tryz.prog W = .ok (.value (.float .f64 b)) W:=by
  rw [run_callFunc_extern Tryz.func240 (by kernel_rfl) (by kernel_rfl) (e:=Extern.MathFloatBits.float64frombits) (by kernel_rfl) (by kernel_rfl)]
  rfl
theorem run_mfrom (b : Nat) (W : World) : (callFunc 116 #[.int .u64 (b : Int)]).run Tryz.prog W = .ok (.value (.float .f64 b)) W:=by
  rw [run_callFunc_extern Tryz.func116 (by kernel_rfl) (by kernel_rfl) (e:=Extern.MathFloatBits.float64frombits) (by kernel_rfl) (by kernel_rfl)]
  rfl
end LM
end Go.Proofs.YtihbgghlnppkiaaGreatDoor
