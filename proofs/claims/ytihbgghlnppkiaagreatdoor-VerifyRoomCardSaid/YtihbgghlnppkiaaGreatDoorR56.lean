import Derived.Test.YtihbgghlnppkiaaGreatDoorR39
import Derived.Test.YtihbgghlnppkiaaGreatDoorR38
import Derived.Test.YtihbgghlnppkiaaGreatDoorR52
import Derived.Test.YtihbgghlnppkiaaGreatDoorR09
import Derived.Lib.OthersKept
import Derived.Test.YtihbgghlnppkiaaGreatDoorR42
import Derived.Laws.RangeAny
import Derived.Laws.Cover1
import Derived.Laws.Runes
set_option linter.unusedVariables false
set_option linter.unusedSimpArgs false
set_option maxRecDepth 100000
set_option maxHeartbeats 16000000
namespace Go.Proofs.YtihbgghlnppkiaaGreatDoor
open Go Go.Shelf Go.RowKit Go.Sort Go.Lib
namespace LM
theorem ftoaF_pzero (b B : Nat) (W0 : World) (v : Value) (w : World) (hbe : b = 0) (hob : OB B W0 0 [] v [] w) :
    Calls Tryz.prog 140 #[v,.float .f64 b,.int .u8 102,.int .i64 (-1)] w fun r w' =>
      ∃ v' g ds,r = .returned v'∧OB B W0 g ds v' (fmtF false [] 0) w':=by
  obtain ⟨bq,hbq⟩ : ∃ q,b / 4503599627370496 = q:=⟨_,rfl⟩
  have hbqi : (b : Int) / 4503599627370496 = (bq : Int):=by omega
  have hbql : bq < 4096:=by omega
  have hex2 : bits .and .i64 (bq : Int) 2047 = 0:=by
    have h:=i64_and_nat bq 2047 (by omega) (by decide)
    have h2 : bq &&& 2047 = 0:=by rw [nat_mask11]; omega
    rw [h2] at h
    exact h
  have hfr2 : bits .and .u64 (b : Int) 4503599627370495 = 0:=by
    have h:=u64_and_nat b 4503599627370495 (by omega) (by decide)
    have h2 : b &&& 4503599627370495 = 0:=by
      rw [show b &&& 4503599627370495 = b % 2 ^ 52 from Nat.and_two_pow_sub_one_eq_mod b 52]
      omega
    rw [h2] at h
    exact h
  have hneg2 : ((b : Int) / 9223372036854775808 != 0) = false:=by
    rw [bne_eq_false_iff_eq]; omega
  have RB:=run_sbits b
  have FZ:=Lib.hid fun k=>fmtF_zero B W0 v [] (w.drewN k) false 0 (hob.drewN k) (by decide)
  clear hbe hbq hob
  go_enter Tryz.func140,Tryz.ntmps140
  go_wp2_with (fail)
  go_quiet (fail)
  go_wp2_with (fail)
  refine (FZ.out _).mono ?_
  rintro r w4 ⟨v4,rfl,hob4⟩
  go_wp2
  go_ret
  exact ⟨_,_,_,rfl,hob4⟩
theorem flotext_pinf (w : World) :
    Calls Tryz.prog 86 #[.float .f64 9218868437227405312] w fun e w'=>e = .returned (.string ⟨#[43,105,110,102,46,48]⟩)∧w = w':=by
  have A1:=Lib.hid fun W=>abs_any 9218868437227405312 W (by decide)
  have hN:=fun W=>isNaN_any 9218868437227405312 W (by decide)
  rw [decide_eq_false (show ¬ nanW 9218868437227405312 by unfold nanW; decide)] at hN
  have N1:=Lib.hid hN
  have P1:=Lib.hid fun W=>isInf_pos 9218868437227405312 W true (by decide +kernel)
  clear hN
  go_enter Tryz.func86,Tryz.ntmps86
  go_wp2_with (fail)
  refine (A1.out _).mono ?_
  rintro e w' ⟨rfl,rfl⟩
  go_wp2_with (fail)
  refine (N1.out _).mono ?_
  rintro e w' ⟨rfl,rfl⟩
  go_wp2_with (fail)
  refine (P1.out _).mono ?_
  rintro e w' ⟨rfl,rfl⟩
  go_wp2_with (fail)
  go_ret
  exact ⟨rfl,rfl⟩
end LM
end Go.Proofs.YtihbgghlnppkiaaGreatDoor
