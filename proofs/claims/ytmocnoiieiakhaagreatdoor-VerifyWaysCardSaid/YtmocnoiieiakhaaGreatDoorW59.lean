/- The law VerifyWays, of what the row lists; rows of bools that came in. -/
import Derived.Test.YtmocnoiieiakhaaGreatDoorW45
import Derived.Test.YtmocnoiieiakhaaGreatDoorW57
import Derived.Test.YtmocnoiieiakhaaGreatDoorW44
import Derived.Test.YtmocnoiieiakhaaGreatDoorW47
import Derived.Test.YtmocnoiieiakhaaGreatDoorW41
namespace Go.Proofs.YtmocnoiieiakhaaGreatDoor
open Go Go.RowKit Go.ChangeShapes Go.WideShapes
namespace LM
set_option linter.unusedVariables false

section
variable {H : Type} {enc : TypeId × Value → H} {w : World} {held : Bool}
theorem open_bool1 (n : Nat) (cl : List Value) (y : DataW H × List MemPlace) (h : DataW.trod enc Tryz.prog w 0 (fun _ => true) held n 4 cl = some y) : ∃ x : Bool, cl = [.bool x] ∧ True := by
  obtain ⟨b, e, -⟩ := DataW.trod_bool Tryz.underlying4 h
  exact ⟨b, e, trivial⟩
set_option maxRecDepth 100000 in
theorem open_bools {b0 : Nat} {r : Reach} {v : Value} {d : DataW H} {p : List MemPlace}
    (hv : Value.okWide Tryz.prog w r b0 36 v) (h : DataW.Trod enc Tryz.prog w 0 (fun _ => true) held 36 v d p) :
    ∃ (B : Option Addr) (b off cap : Nat) (bs : List Bool), v = .slice B bs.length cap ∧ BoolsAt w B b off cap bs := by
  obtain ⟨B0, l0, c0, rfl⟩ := okWide_slice Tryz.underlying36 hv
  obtain ⟨fuel, hf⟩ := h
  obtain ⟨B, bs, cap, e, -, ⟨b, off, hB, hat⟩, hcap⟩ := open_row_of (fun x : Bool => [Value.bool x]) 1 (by decide) Tryz.underlying36 (by kernel_rfl) (fun _ => True) (fun _ => rfl) open_bool1 hf
  exact ⟨B, b, off, cap, bs, e, hB, fun j x hj => by
    have ha := hat j x hj 0 _ rfl
    rw [Nat.mul_one, Nat.add_zero] at ha
    exact ha, hcap⟩
end

abbrev lowBitsV : List Int := [0, 1, 56, 2, 57, 49, 28, 3, 61, 58, 42, 50, 38, 29, 17, 4, 62, 47, 59, 36, 45, 43, 51, 22, 53, 39, 33, 30, 24, 18, 12, 5, 63, 55, 48, 27, 60, 41, 37, 16, 46, 35, 44, 21, 52, 32, 23, 11, 54, 26, 40, 15, 34, 20, 31, 10, 25, 14, 19, 9, 13, 8, 7, 6]
theorem db_ofV {l : List (String × DataW Unit)} {W : World} (h : laidMetH Tryz.prog l W)
    (he : ((l.filter fun x => x.2.handleName?.isNone).filter fun x => x.1 == "math/bits.deBruijn64tab") = [("math/bits.deBruijn64tab", Lib.tabData .u8 lowBitsV)]) : DB W := by
  have t : Lib.TabIs Tryz.prog W "math/bits.deBruijn64tab" .u8 lowBitsV :=
    Lib.tabIs_of_head (g := 14) (t := 295) (e := 5) (n := 64) (by kernel_rfl) (by kernel_rfl) Tryz.underlying295 Tryz.underlying5 (by kernel_rfl) (by kernel_rfl) (listed_of h he)
  have hc : W.cell? ⟨14, 15, none⟩ = some (.int .u8 4) := t.cell (by kernel_rfl) 15 (by decide)
  exact ⟨hc, (spot_none hc).2⟩

theorem verifyWays_card {l : List (String × DataW Unit)} {nm nr : String} {d dr : DataW Unit} {W : World} (h : laidMetH Tryz.prog l W)
    (e0 : ((l.filter fun x => x.2.handleName?.isNone).filter fun x => x.1 == "math/bits.deBruijn64tab") = [("math/bits.deBruijn64tab", Lib.tabData .u8 lowBitsV)])
    (e1 : ((l.filter fun x => x.2.handleName?.isNone).filter fun x => x.1 == "unicode/utf8.first") = [("unicode/utf8.first", Lib.firstData)])
    (e2 : ((l.filter fun x => x.2.handleName?.isNone).filter fun x => x.1 == "unicode/utf8.acceptRanges") = [("unicode/utf8.acceptRanges", Lib.acceptData)])
    (c1 : ((l.filter fun x => x.2.handleName?.isNone).filter fun x => x.1 == "internal/strconv.leftcheats") = [("internal/strconv.leftcheats", Go.Pinned.leftcheats)])
    (c2 : ((l.filter fun x => x.2.handleName?.isNone).filter fun x => x.1 == "internal/strconv.powtab") = [("internal/strconv.powtab", .slice (powtabL.map fun x => .lit (.int .i64 ((x : Nat) : Int))) [])])
    (c3 : ((l.filter fun x => x.2.handleName?.isNone).filter fun x => x.1 == "internal/strconv.float64info") = [("internal/strconv.float64info", .agg [.lit (.int .u64 52), .lit (.int .u64 11), .lit (.int .i64 (-1023))])])
    (e3 : ((l.filter fun x => x.2.handleName?.isNone).filter fun x => x.1 == "strconv.ErrSyntax") = [("strconv.ErrSyntax", .iface nm d)])
    (e4 : ((l.filter fun x => x.2.handleName?.isNone).filter fun x => x.1 == "strconv.ErrRange") = [("strconv.ErrRange", .iface nr dr)])
    (e5 : ((l.filter fun x => x.2.handleName?.isNone).filter fun x => x.1 == "strings.asciiSpace") = [("strings.asciiSpace", Lib.tabData .u8 Lib.asciiSpaceTab)]) (hv : FV W)
    (c : Cod) (hc : CodV W c) (hraw : c.Raw W) (hbd : BdF 140737488351232 c.kids) (proc : Int) (bs : List Bool) (B : Option Addr) (b off cap : Nat) (hbs : BoolsAt W B b off cap bs) :
    Calls Tryz.prog 4 #[codA c, .int .i64 proc, .slice B bs.length cap] W fun e w' => e = .returned (.bool true) ∧ Below W.heap.size W w' := by
  have hsp := spt_of h e5
  obtain ⟨q, hq⟩ := const_fn c W hc (rawT_of hraw.raw hbd) (ut_of h e1 e2) hv (db_ofV h e0) (fx_of h c1 c2 c3) (rngcell_of h e4) (sentinel_of h e3)
  refine vways_by c proc bs B b off cap primK W hc hraw.ps (fun p hp => (hraw.pr p hp).2.1) hbs (fun W2 hW => valive_w W2 fun W3 h3 => hsp W3 (bel_trans (B := W.heap.size) hW h3)) vmul fun hg => ?_
  obtain ⟨g1, g2, g3, g4⟩ := greatV_no hg
  have hok : c.Ok := ⟨hraw.ps, hraw.kids, hraw.gs, fun p hp => ⟨(hraw.pr p hp).2.1, by have := g4 p hp; omega⟩⟩
  exact ⟨rightP c (allF q c.kids), fun W2 hW => vcheck_c q c primK W2 (hc.below hW) hok (by omega) (fun W1 h1 hh k j r hdr W3 h3 hD => hq hh k j r hdr W3 (bel_trans (B := W.heap.size) (bel_trans (B := W.heap.size) hW h1) h3))
    (vfields W2 fun W3 h3 => hsp W3 (bel_trans (B := W.heap.size) hW h3)) vmul, fun hr => rightC_of hc hok hr⟩

end LM
end Go.Proofs.YtmocnoiieiakhaaGreatDoor
