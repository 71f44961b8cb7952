/- The law DatumWords, of what the row lists. -/
import Derived.Test.YtpnjddfnlaonoaaGreatDoorJ45
import Derived.Lib.LaidU8T
import Derived.Shelf.Unicode.DecodeSlow
import Derived.Test.YtpnjddfnlaonoaaGreatDoorJ43
import Derived.Test.YtpnjddfnlaonoaaGreatDoorJ22
import Derived.Test.YtpnjddfnlaonoaaGreatDoorJ40
import Derived.Test.YtpnjddfnlaonoaaGreatDoorJ37
import Derived.Test.YtpnjddfnlaonoaaGreatDoorJ41
namespace Go.Proofs.YtpnjddfnlaonoaaGreatDoor
open Go Go.RowKit
namespace LM
set_option linter.unusedVariables false

theorem u8types : U8Types Tryz.prog Tryz.lays196_ren := U8Types.of196 Tryz.lays196
theorem u8extra : U8Extra Tryz.prog Tryz.lays196_ren := { n3 := by kernel_rfl, n4 := by kernel_rfl, y3 := by kernel_rfl, y4 := by kernel_rfl, c5 := by kernel_rfl, c119 := by kernel_rfl, c138 := by kernel_rfl }
theorem ut_of {l : List (String × DataW Unit)} {W : World} (h : laidMetH Tryz.prog l W)
    (e1 : ((l.filter fun x => x.2.handleName?.isNone).filter fun x => x.1 == "unicode/utf8.first") = [("unicode/utf8.first", Lib.firstData)])
    (e2 : ((l.filter fun x => x.2.handleName?.isNone).filter fun x => x.1 == "unicode/utf8.acceptRanges") = [("unicode/utf8.acceptRanges", Lib.acceptData)]) : UT W := fun W' hb => by
  have t := utf8Tabs_of_readsT u8types u8extra (Go.Lib.laidMet.reads (listed_of h e1) (List.mem_singleton.2 rfl)) (Go.Lib.laidMet.reads (listed_of h e2) (List.mem_singleton.2 rfl))
  exact Utf8Tabs_below t hb
end LM
end Go.Proofs.YtpnjddfnlaonoaaGreatDoor

namespace Go.Proofs.YtpnjddfnlaonoaaGreatDoor
open Go Go.RowKit
namespace LM
set_option linter.unusedVariables false

theorem dwords_card {l : List (String × DataW Unit)} {nm nr : String} {d dr : DataW Unit} {W : World} (h : laidMetH Tryz.prog l W)
    (e1 : ((l.filter fun x => x.2.handleName?.isNone).filter fun x => x.1 == "unicode/utf8.first") = [("unicode/utf8.first", Lib.firstData)])
    (e2 : ((l.filter fun x => x.2.handleName?.isNone).filter fun x => x.1 == "unicode/utf8.acceptRanges") = [("unicode/utf8.acceptRanges", Lib.acceptData)])
    (c1 : ((l.filter fun x => x.2.handleName?.isNone).filter fun x => x.1 == "internal/strconv.leftcheats") = [("internal/strconv.leftcheats", Go.Pinned.leftcheats)])
    (c2 : ((l.filter fun x => x.2.handleName?.isNone).filter fun x => x.1 == "internal/strconv.powtab") = [("internal/strconv.powtab", .slice (powtabL.map fun x => .lit (.int .i64 ((x : Nat) : Int))) [])])
    (c3 : ((l.filter fun x => x.2.handleName?.isNone).filter fun x => x.1 == "internal/strconv.float64info") = [("internal/strconv.float64info", .agg [.lit (.int .u64 52), .lit (.int .u64 11), .lit (.int .i64 (-1023))])])
    (e3 : ((l.filter fun x => x.2.handleName?.isNone).filter fun x => x.1 == "strconv.ErrSyntax") = [("strconv.ErrSyntax", .iface nm d)])
    (e4 : ((l.filter fun x => x.2.handleName?.isNone).filter fun x => x.1 == "strconv.ErrRange") = [("strconv.ErrRange", .iface nr dr)]) (hv : FV W) (s : ByteArray) :
    Calls Tryz.prog 5 #[.string s] W fun e w' => e = .returned (.bool true) ∧ Below W.heap.size W w' :=
  dwords_by s W hv (fx_of h c1 c2 c3) (rngcell_of h e4) (sentinel_of h e3) fun W2 hW => dalive_any W2 ((sentinel_of h e3).below hW) ((ut_of h e1 e2).keep hW) (hv.below hW).tab

end LM
end Go.Proofs.YtpnjddfnlaonoaaGreatDoor
