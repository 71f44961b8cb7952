import Derived.Test.YtihbgghlnppkiaaGreatDoorR46
import Derived.Test.YtihbgghlnppkiaaGreatDoorR60
set_option linter.unusedVariables false
set_option linter.unusedSimpArgs false
set_option maxRecDepth 100000
set_option maxHeartbeats 16000000
namespace Go.Proofs.YtihbgghlnppkiaaGreatDoor
open Go Go.RowKit
namespace LM
theorem verifyRoom_card {l : List (String × DataW Unit)} {nm nr : String} {d dr : DataW Unit} {W : World} (h : laidMetH Tryz.prog l W)
    (e0 : ((l.filter fun x => x.2.handleName?.isNone).filter fun x => x.1 == "math/bits.deBruijn64tab") = [("math/bits.deBruijn64tab", Lib.tabData .u8 lowBitsV)])
    (e1 : ((l.filter fun x => x.2.handleName?.isNone).filter fun x => x.1 == "unicode/utf8.first") = [("unicode/utf8.first", Lib.firstData)])
    (e2 : ((l.filter fun x => x.2.handleName?.isNone).filter fun x => x.1 == "unicode/utf8.acceptRanges") = [("unicode/utf8.acceptRanges", Lib.acceptData)])
    (c1 : ((l.filter fun x => x.2.handleName?.isNone).filter fun x => x.1 == "internal/strconv.leftcheats") = [("internal/strconv.leftcheats", Go.Pinned.leftcheats)])
    (c2 : ((l.filter fun x => x.2.handleName?.isNone).filter fun x => x.1 == "internal/strconv.powtab") = [("internal/strconv.powtab", .slice (powtabL.map fun x => .lit (.int .i64 ((x : Nat) : Int))) [])])
    (c3 : ((l.filter fun x => x.2.handleName?.isNone).filter fun x => x.1 == "internal/strconv.float64info") = [("internal/strconv.float64info", .agg [.lit (.int .u64 52), .lit (.int .u64 11), .lit (.int .i64 (-1023))])])
    (e3 : ((l.filter fun x => x.2.handleName?.isNone).filter fun x => x.1 == "strconv.ErrSyntax") = [("strconv.ErrSyntax", .iface nm d)])
    (e4 : ((l.filter fun x => x.2.handleName?.isNone).filter fun x => x.1 == "strconv.ErrRange") = [("strconv.ErrRange", .iface nr dr)])
    (e5 : ((l.filter fun x => x.2.handleName?.isNone).filter fun x => x.1 == "strings.asciiSpace") = [("strings.asciiSpace", Lib.tabData .u8 Lib.asciiSpaceTab)]) (hv : FV W)
    (c : Cod) (hc : CodV W c) (hraw : c.Raw W) (hbd : BdF 140737488351232 c.kids) (more : Int) :
    Calls Tryz.prog 3 #[codA c,.int .i64 more] W fun e w'=>e = .returned (.bool true)∧Below W.heap.size W w':=by
  have hsp:=spt_of h e5
  obtain ⟨q,hq⟩:=const_fn c W hc (rawT_of hraw.raw hbd) (ut_of h e1 e2) hv (db_ofV h e0) (fx_of h c1 c2 c3) (rngcell_of h e4) (sentinel_of h e3)
  refine vroom_by c more primK (allF q c.kids) W hc hraw.ps (fun hg=>?_) (fun W2 hW=>valive_w W2 fun W3 h3=>hsp W3 (bel_trans (B:=W.heap.size) hW h3)) vmul fun x W2 hW hvd hokd hkd hl=>?_
  · obtain ⟨g1,g2,g3,g4⟩:=greatV_no hg
    exact ⟨hraw.ps,hraw.kids,hraw.gs,fun p hp=>⟨(hraw.pr p hp).2.1,by have:=g4 p hp; omega⟩⟩
  · have hx:=vcheck_c q x primK W2 hvd hokd hl (fun W1 h1 hh k j r hdr W3 h3 hD=>hq hh k j r (by rw [← hkd]; exact hdr) W3 (bel_trans (B:=W.heap.size) (bel_trans (B:=W.heap.size) hW h1) h3))
      (vfields W2 fun W3 h3=>hsp W3 (bel_trans (B:=W.heap.size) hW h3)) vmul
    rw [hkd] at hx
    exact hx
end LM
end Go.Proofs.YtihbgghlnppkiaaGreatDoor
