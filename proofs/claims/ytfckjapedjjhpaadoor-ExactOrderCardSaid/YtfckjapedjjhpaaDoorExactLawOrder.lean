/- The walk of the statement ExactOrder, all ways. -/
import Derived.Test.YtfckjapedjjhpaaDoorExactLawOrderB
import Derived.Test.YtfckjapedjjhpaaDoorExactLawOrderC
import Derived.Test.YtfckjapedjjhpaaDoorExactLawOrderD
import Derived.Test.YtfckjapedjjhpaaDoorExactLawOrderE
namespace Go.Proofs.YtfckjapedjjhpaaDoor
open Go.RowKit
namespace LM

theorem order_walk (s t u : Bool) (A B C : Option Addr) (ca cb cc : Nat) (xs ys zs : List Nat) (w : World) (ha : Rd w A xs) (hb : Rd w B ys) (hc : Rd w C zs) (hx : Lm xs) (hy : Lm ys) (hz : Lm zs) (hca : xs.length ≤ ca) (hcb : ys.length ≤ cb) (hcc : zs.length ≤ cc)
    (hcam : ca ≤ 9223372036854775807) (hcbm : cb ≤ 9223372036854775807) (hccm : cc ≤ 9223372036854775807) (hna : A = none → xs.length = 0 ∧ ca = 0) (hnb : B = none → ys.length = 0 ∧ cb = 0) (hnc : C = none → zs.length = 0 ∧ cc = 0)
    (htab : Lib.TabIs Tryd.prog w "internal/strconv.uint64pow10" .u64 Lib.pow10Tab) :
    Calls Tryd.prog 10 #[.agg #[.bool s, .slice A xs.length ca], .agg #[.bool t, .slice B ys.length cb], .agg #[.bool u, .slice C zs.length cc]] w fun e w' => e = .returned (.bool true) ∧ Below w.heap.size w w' := by
  by_cases r1 : rightB s xs = true
  · by_cases r2 : rightB t ys = true
    · by_cases r3 : rightB u zs = true
      · by_cases o1 : sg s (val xs) < sg t (val ys)
        · by_cases o2 : sg t (val ys) < sg u (val zs)
          · exact order_lt_yes s t u A B C ca cb cc xs ys zs w ha hb hc hx hy hz hca hcb hcc hcam hcbm hccm hna hnb hnc htab r1 r2 r3 o1 o2
          · exact order_lt_no s t u A B C ca cb cc xs ys zs w ha hb hc hx hy hz hca hcb hcc hcam hcbm hccm hna hnb hnc htab r1 r2 r3 o1 o2
        · by_cases o3 : sg t (val ys) < sg s (val xs)
          · exact order_gt s t u A B C ca cb cc xs ys zs w ha hb hc hx hy hz hca hcb hcc hcam hcbm hccm hna hnb hnc htab r1 r2 r3 o3
          · exact order_eq s t u A B C ca cb cc xs ys zs w ha hb hc hx hy hz hca hcb hcc hcam hcbm hccm hna hnb hnc htab r1 r2 r3 (by omega)
      · exact order_c s t u A B C ca cb cc xs ys zs w ha hb hc hx hy hz hca hcb hcc hcam hcbm hccm hna hnb hnc htab r1 r2 (by simpa using r3)
    · exact order_b s t u A B C ca cb cc xs ys zs w ha hb hc hx hy hz hca hcb hcc hcam hcbm hccm hna hnb hnc htab r1 (by simpa using r2)
  · exact order_a s t u A B C ca cb cc xs ys zs w ha hb hc hx hy hz hca hcb hcc hcam hcbm hccm hna hnb hnc htab (by simpa using r1)

end LM
end Go.Proofs.YtfckjapedjjhpaaDoor
