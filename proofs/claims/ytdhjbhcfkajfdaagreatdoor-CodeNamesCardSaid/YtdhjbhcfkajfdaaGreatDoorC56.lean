/- Layer 5: what the package variables hold, out of what the row lists. -/
import Derived.Test.YtdhjbhcfkajfdaaGreatDoorC45
import Derived.Lib.LaidU8T
import Derived.Shelf.Unicode.DecodeSlow
import Derived.Test.YtdhjbhcfkajfdaaGreatDoorC37
import Derived.Test.YtdhjbhcfkajfdaaGreatDoorC14
import Derived.Test.YtdhjbhcfkajfdaaGreatDoorC35
namespace Go.Proofs.YtdhjbhcfkajfdaaGreatDoor
open Go Go.RowKit
namespace LM
set_option linter.unusedVariables false

theorem u8types : U8Types Tryz.prog Tryz.lays196_ren := U8Types.of196 Tryz.lays196
theorem u8extra : U8Extra Tryz.prog Tryz.lays196_ren := { n3 := by kernel_rfl, n4 := by kernel_rfl, y3 := by kernel_rfl, y4 := by kernel_rfl, c5 := by kernel_rfl, c119 := by kernel_rfl, c138 := by kernel_rfl }
theorem ut_of {l : List (String × DataW Unit)} {W : World} (h : laidMetH Tryz.prog l W)
    (e1 : ((l.filter fun x => x.2.handleName?.isNone).filter fun x => x.1 == "unicode/utf8.first") = [("unicode/utf8.first", Lib.firstData)])
    (e2 : ((l.filter fun x => x.2.handleName?.isNone).filter fun x => x.1 == "unicode/utf8.acceptRanges") = [("unicode/utf8.acceptRanges", Lib.acceptData)]) : UT W := fun W' hb => by
  have t := utf8Tabs_of_readsT u8types u8extra (Go.Lib.laidMet.reads (listed_of h e1) (List.mem_singleton.2 rfl)) (Go.Lib.laidMet.reads (listed_of h e2) (List.mem_singleton.2 rfl))
  exact Utf8Tabs_below t hb
end LM
end Go.Proofs.YtdhjbhcfkajfdaaGreatDoor
