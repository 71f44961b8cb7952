import Derived.Test.YtihbgghlnppkiaaGreatDoorR44
import Derived.Test.YtihbgghlnppkiaaGreatDoorR58
import Derived.Test.YtihbgghlnppkiaaGreatDoorR48
import Derived.Test.YtihbgghlnppkiaaGreatDoorR41
set_option linter.unusedVariables false
set_option linter.unusedSimpArgs false
set_option maxRecDepth 100000
set_option maxHeartbeats 16000000
namespace Go.Proofs.YtihbgghlnppkiaaGreatDoor
open Go Go.RowKit Go.ChangeShapes Go.WideShapes
namespace LM
section
variable {H : Type} {enc : TypeId × Value → H} {w : World} {held : Bool}
end
abbrev lowBitsV : List Int:=[0,1,56,2,57,49,28,3,61,58,42,50,38,29,17,4,62,47,59,36,45,43,51,22,53,39,33,30,24,18,12,5,63,55,48,27,60,41,37,16,46,35,44,21,52,32,23,11,54,26,40,15,34,20,31,10,25,14,19,9,13,8,7,6]
theorem db_ofV {l : List (String × DataW Unit)} {W : World} (h : laidMetH Tryz.prog l W)
    (he : ((l.filter fun x => x.2.handleName?.isNone).filter fun x => x.1 == "math/bits.deBruijn64tab") = [("math/bits.deBruijn64tab", Lib.tabData .u8 lowBitsV)]) : DB W := by
  have t : Lib.TabIs Tryz.prog W "math/bits.deBruijn64tab" .u8 lowBitsV :=
    Lib.tabIs_of_head (g:=14) (t:=293) (e:=5) (n:=64) (by kernel_rfl) (by kernel_rfl) Tryz.underlying293 Tryz.underlying5 (by kernel_rfl) (by kernel_rfl) (listed_of h he)
  have hc : W.cell? ⟨14,15,none⟩ = some (.int .u8 4):=t.cell (by kernel_rfl) 15 (by decide)
  exact ⟨hc,(spot_none hc).2⟩
end LM
end Go.Proofs.YtihbgghlnppkiaaGreatDoor
