import Derived.Test.YtaonablbgicmpaaGreatDoorE55
import Derived.Test.YtaonablbgicmpaaGreatDoorE48
import Derived.Test.YtaonablbgicmpaaGreatDoorE33
import Derived.Deep.Strs
import Derived.Test.YtaonablbgicmpaaGreatDoorE53
import Derived.Test.YtaonablbgicmpaaGreatDoorE46
import Derived.Test.YtaonablbgicmpaaGreatDoorRows
set_option linter.unusedVariables false
set_option linter.unusedSimpArgs false
set_option maxRecDepth 100000
set_option maxHeartbeats 16000000
namespace Go.Proofs.YtaonablbgicmpaaGreatDoor
open Go Go.RowKit
namespace LM
abbrev lowBits : List Int:=[0,1,56,2,57,49,28,3,61,58,42,50,38,29,17,4,62,47,59,36,45,43,51,22,53,39,33,30,24,18,12,5,63,55,48,27,60,41,37,16,46,35,44,21,52,32,23,11,54,26,40,15,34,20,31,10,25,14,19,9,13,8,7,6]
theorem db_of {l : List (String × DataW Unit)} {W : World} (h : laidMetH Tryz.prog l W)
  (he : ((l.filter fun x => x.2.handleName?.isNone).filter fun x => x.1 == "math/bits.deBruijn64tab") = [("math/bits.deBruijn64tab", Lib.tabData .u8 lowBits)]) : DB W := by
 have t : Lib.TabIs Tryz.prog W "math/bits.deBruijn64tab" .u8 lowBits :=
  Lib.tabIs_of_head (g:=13) (t:=335) (e:=5) (n:=64) (by kernel_rfl) (by kernel_rfl) Tryz.underlying335 Tryz.underlying5 (by kernel_rfl) (by kernel_rfl) (listed_of h he)
 have hc : W.cell? ⟨13,15,none⟩ = some (.int .u8 4):=t.cell (by kernel_rfl) 15 (by decide)
 exact ⟨hc,(spot_none hc).2⟩
abbrev marksD : DataW Unit:=.agg [.agg [.lit (.string [40]),.lit (.int .i64 0),.lit (.string [])],.agg [.lit (.string [35,40]),.lit (.int .i64 1),.lit (.string [])],.agg [.lit (.string [41]),.lit (.int .i64 2),.lit (.string [])],.agg [.lit (.string [39]),.lit (.int .i64 3),.lit (.string [113,117,111,116,101])],.agg [.lit (.string [96]),.lit (.int .i64 3),.lit (.string [113,117,97,115,105,113,117,111,116,101])],.agg [.lit (.string [44,64]),.lit (.int .i64 3),.lit (.string [117,110,113,117,111,116,101,45,115,112,108,105,99,105,110,103])],.agg [.lit (.string [44]),.lit (.int .i64 3),.lit (.string [117,110,113,117,111,116,101])]]
theorem mark_cells {W : World} {fuel : Nat} {base : Nat} {sp : Nat → Bool} {held : Bool} {H : Type} {enc : TypeId × Value → H} {cs : List Value} {s u : List UInt8} {k : Int} {q : List MemPlace}
  (h : DataW.trod enc Tryz.prog W base sp held fuel 179 cs = some (.agg [.lit (.string s),.lit (.int .i64 k),.lit (.string u)],q)) : cs[0]? = some (.string ⟨s.toArray⟩)∧cs[1]? = some (.int .i64 k)∧cs[2]? = some (.string ⟨u.toArray⟩):=by
 obtain ⟨y0,y1,y2,n,hx,hl,h0,h1,h2⟩:=Go.Deep.trod_struct3 Tryz.underlying179 h
 have hcs : Tryz.prog.cellsOf 9 = 1:=by kernel_rfl
 have hci : Tryz.prog.cellsOf 3 = 1:=by kernel_rfl
 obtain ⟨s',e0,rfl,_⟩:=DataW.trod_string Tryz.underlying9 h0
 obtain ⟨k',e1,rfl,_⟩:=DataW.trod_int Tryz.underlying3 h1
 obtain ⟨u',e2,rfl,_⟩:=DataW.trod_string Tryz.underlying9 h2
 have hx1:=congrArg Prod.fst hx
 simp only [DataW.agg.injEq,List.cons.injEq,DataW.lit.injEq,Lit.string.injEq,Lit.int.injEq,true_and,and_true] at hx1
 obtain ⟨rfl,rfl,rfl⟩:=hx1
 refine ⟨?_,?_,?_⟩
 ·have h3:=congrArg (·[0]?) e0
  simpa [List.getElem?_take,List.getElem?_drop,hcs,hci] using h3
 ·have h3:=congrArg (·[0]?) e1
  simpa [List.getElem?_take,List.getElem?_drop,hcs,hci] using h3
 ·have h3:=congrArg (·[0]?) e2
  simpa [List.getElem?_take,List.getElem?_drop,hcs,hci] using h3
theorem mk_of {l : List (String × DataW Unit)} {W : World} (h : laidMetH Tryz.prog l W)
  (he : ((l.filter fun x => x.2.handleName?.isNone).filter fun x => x.1 == "distaff/reader.marks") = [("distaff/reader.marks", marksD)]) : MK W := fun W' hb => by
 have hl:=listed_of h he
 obtain ⟨ps,⟨g',t',cs,fuel,p,q,hg',ht',hvar,hd,_,_⟩,_⟩:=hl
 obtain rfl := Option.some.inj ((show Tryz.prog.globalNamed "distaff/reader.marks" = some 3 by kernel_rfl).symm.trans hg')
 obtain rfl:=Option.some.inj ((show (Tryz.prog.globals[3]?).map (·.type) = some 180 by kernel_rfl).symm.trans ht')
 have hcm : Tryz.prog.cellsOf 179 = 3:=by kernel_rfl
 have hel : ∀ i,i < 7 → ∀ (s u : List UInt8) (k : Int),(match marksD with | .agg ds=>ds[i]? | _=>none) = some (.agg [.lit (.string s),.lit (.int .i64 k),.lit (.string u)]) →
   cs[3 * i]? = some (.string ⟨s.toArray⟩)∧cs[3 * i + 1]? = some (.int .i64 k)∧cs[3 * i + 2]? = some (.string ⟨u.toArray⟩):=fun i hi s u k hds=>by
  obtain ⟨fuel',d,q',hdi,hde⟩:=Go.Lib.array_elem Tryz.underlying180 hd i hi
  obtain rfl:=Option.some.inj (hdi.symm.trans hds)
  rw [hcm] at hde
  obtain ⟨h0,h1,h2⟩:=mark_cells hde
  rw [Nat.mul_comm i 3,List.getElem?_take,List.getElem?_drop] at h0 h1 h2
  exact ⟨by rw [← Array.getElem?_toList]; exact h0,by rw [← Array.getElem?_toList]; exact h1,by rw [← Array.getElem?_toList]; exact h2⟩
 have hat : ∀ (j : Nat) (v : Value),marksL[j]? = some v → cs[j]? = some v:=by
  intro j v hj
  have e0:=hel 0 (by decide) _ _ _ rfl
  have e1:=hel 1 (by decide) _ _ _ rfl
  have e2:=hel 2 (by decide) _ _ _ rfl
  have e3:=hel 3 (by decide) _ _ _ rfl
  have e4:=hel 4 (by decide) _ _ _ rfl
  have e5:=hel 5 (by decide) _ _ _ rfl
  have e6:=hel 6 (by decide) _ _ _ rfl
  have hjl : j < 21:=(List.getElem?_eq_some_iff.1 hj).1
  rcases (by omega : j = 0 ∨ j = 1 ∨ j = 2 ∨ j = 3 ∨ j = 4 ∨ j = 5 ∨ j = 6 ∨ j = 7 ∨ j = 8 ∨ j = 9 ∨ j = 10 ∨ j = 11 ∨ j = 12 ∨ j = 13 ∨ j = 14 ∨ j = 15 ∨ j = 16 ∨ j = 17 ∨ j = 18 ∨ j = 19 ∨ j = 20) with rfl | rfl | rfl | rfl | rfl | rfl | rfl | rfl | rfl | rfl | rfl | rfl | rfl | rfl | rfl | rfl | rfl | rfl | rfl | rfl | rfl
  ·exact e0.1.trans hj
  ·exact e0.2.1.trans hj
  ·exact e0.2.2.trans hj
  ·exact e1.1.trans hj
  ·exact e1.2.1.trans hj
  ·exact e1.2.2.trans hj
  ·exact e2.1.trans hj
  ·exact e2.2.1.trans hj
  ·exact e2.2.2.trans hj
  ·exact e3.1.trans hj
  ·exact e3.2.1.trans hj
  ·exact e3.2.2.trans hj
  ·exact e4.1.trans hj
  ·exact e4.2.1.trans hj
  ·exact e4.2.2.trans hj
  ·exact e5.1.trans hj
  ·exact e5.2.1.trans hj
  ·exact e5.2.2.trans hj
  ·exact e6.1.trans hj
  ·exact e6.2.1.trans hj
  ·exact e6.2.2.trans hj
 have hcell : W.cell? ⟨3,0,none⟩ = some (.string ⟨#[40]⟩):=(World.var?_cell (by kernel_rfl) hvar 0).trans (hat 0 _ rfl)
 have hlt:=(spot_none hcell).2
 intro j v hj
 exact (hb.cell (p:=⟨3,j,none⟩) hlt).trans ((World.var?_cell (by kernel_rfl) hvar j).trans (hat j v hj))
end LM
namespace LM
theorem BdF.drop {B : Nat} : ∀ (j : Nat) {fr : Fr},BdF B fr → BdF B (fr.drop j):=by
 intro j
 induction j with
 | zero=>intro fr h; exact h
 | succ j ih =>
  intro fr h
  cases fr with
  | nil=>exact h
  | cons hh k r=>exact ih h.2.2
theorem TxG.of_bd : ∀ {fr : Fr},BdF 1048576 fr → TxG fr:=by
 intro fr
 induction fr with
 | nil=>intro _; exact trivial
 | cons h k r ihk ihr=>intro hb; exact ⟨hb.1.1,ihk hb.2.1,ihr hb.2.2⟩
theorem greatB_no {c : Cod} (h : greatB c = false) : c.ps.length ≤ 200∧c.kids.len ≤ 200∧c.gs.length ≤ 200:=by
 unfold greatB at h
 simp only [Bool.or_eq_false_iff,decide_eq_false_iff_not] at h
 omega
theorem ceffects_card {l : List (String × DataW Unit)} {nr : String} {dr : DataW Unit} {W : World} (h : laidMetH Tryz.prog l W)
  (e0 : ((l.filter fun x => x.2.handleName?.isNone).filter fun x => x.1 == "math/bits.deBruijn64tab") = [("math/bits.deBruijn64tab", Lib.tabData .u8 lowBits)])
  (e1 : ((l.filter fun x => x.2.handleName?.isNone).filter fun x => x.1 == "unicode/utf8.first") = [("unicode/utf8.first", Lib.firstData)])
  (e2 : ((l.filter fun x => x.2.handleName?.isNone).filter fun x => x.1 == "unicode/utf8.acceptRanges") = [("unicode/utf8.acceptRanges", Lib.acceptData)])
  (e3 : ((l.filter fun x => x.2.handleName?.isNone).filter fun x => x.1 == "distaff/reader.marks") = [("distaff/reader.marks", marksD)])
  (c1 : ((l.filter fun x => x.2.handleName?.isNone).filter fun x => x.1 == "internal/strconv.leftcheats") = [("internal/strconv.leftcheats", Go.Pinned.leftcheats)])
  (c2 : ((l.filter fun x => x.2.handleName?.isNone).filter fun x => x.1 == "internal/strconv.powtab") = [("internal/strconv.powtab", .slice (powtabL.map fun x => .lit (.int .i64 ((x : Nat) : Int))) [])])
  (c3 : ((l.filter fun x => x.2.handleName?.isNone).filter fun x => x.1 == "internal/strconv.float64info") = [("internal/strconv.float64info", .agg [.lit (.int .u64 52), .lit (.int .u64 11), .lit (.int .i64 (-1023))])])
  (e5 : ((l.filter fun x => x.2.handleName?.isNone).filter fun x => x.1 == "strconv.ErrRange") = [("strconv.ErrRange", .iface nr dr)]) (hv : FV W) (x : Ins) (c : Cod) (hc : CodV W c) (hraw : c.Raw W) (hlen : ∀ p ∈ c.ps, p.code.length ≤ 1048576) (hbd : BdF 1048576 c.kids) :
  Calls Tryz.prog 3 #[insA x,codA c] W fun e w'=>e = .returned (.bool true)∧Below W.heap.size W w':=by
 obtain ⟨nmf,hnm⟩:=names_fn2 W hv (fx_of h c1 c2 c3) (rngcell_of h e5)
 have hok : c.Ok:=⟨hraw.ps,hraw.kids,hraw.gs,fun p hp=>⟨(hraw.pr p hp).2.1,by have:=hlen p hp; omega⟩⟩
 refine ceffects_by x.op x.a x.b c W hc hok (fun W2 hW=>calive_any W2 ((ut_of h e1 e2).keep hW) ((mk_of h e3).keep hW) ((db_of h e0).below hW)) fun hg W2 hW=>?_
 obtain ⟨h1,h2,h3⟩:=greatB_no hg
 refine rcright_some c W2 (hc.below hW) (fun p hp=>(hraw.pr p hp).2.1) (by omega) (by omega) (by omega) fun hh k j r hdr=>?_
 obtain ⟨b,off,-,hF⟩:=(hc.below hW).kids
 have hd : DatV W2 hh k:=(counted_item hF hdr).2.2
 have hr:=Fr.Raw.drop j hraw.raw
 have hb:=BdF.drop j hbd
 rw [hdr] at hr hb
 refine ⟨rightD nmf hh k,fun V hV=>rdRight2_any nmf k hr.2.1 (TxG.of_bd hb.2.1) hh V (hd.below hV) hr.1 hb.1.1 (fun t _=>callB_keep (hnm t).1 (bel_trans (B:=W.heap.size) hW hV)),fun hR=>?_⟩
 obtain ⟨⟨o1,o2⟩,o3,o4⟩:=rightD_ok (fun t=>(hnm t).2) hr.1 hr.2.1 hR
 exact rtext_right nmf k o3 o4 hh W2 hd o1 o2 (hv.below hW) hR
end LM
end Go.Proofs.YtaonablbgicmpaaGreatDoor
namespace Go.Proofs.YtaonablbgicmpaaGreatDoor
open Go Go.RowKit Go.ChangeShapes Go.WideShapes
namespace LM
theorem bulk_one {H : Type} (d : DataW H) : 1 ≤ Rows.uptoBulk d:=by
 cases d with
 | lit l=>cases l <;> simp [Rows.uptoBulk]
 | nil=>simp [Rows.uptoBulk]
 | ptr d=>simp [Rows.uptoBulk]
 | slice elems spare=>simp [Rows.uptoBulk]
 | agg parts=>simp [Rows.uptoBulk]
 | iface t d=>simp [Rows.uptoBulk]
 | map entries=>simp [Rows.uptoBulk]
 | held h=>simp [Rows.uptoBulk]
theorem bulk_part {H : Type} {d : DataW H} {l : List (DataW H)} (h : d ∈ l) : Rows.uptoBulk d ≤ Rows.uptoBulkAll l:=by
 induction l with
 | nil=>cases h
 | cons x r ih =>
  simp only [Rows.uptoBulkAll]
  rcases List.mem_cons.1 h with e | e
  ·subst e; omega
  ·have:=ih e; omega
theorem bulk_len {H : Type} (l : List (DataW H)) : l.length ≤ Rows.uptoBulkAll l:=by
 induction l with
 | nil=>simp [Rows.uptoBulkAll]
 | cons x r ih=>have:=bulk_one x; simp only [Rows.uptoBulkAll,List.length_cons]; omega
theorem bulk_closed {H : Type} : Closed (H:=H) (fun _ d=>Rows.uptoBulk d ≤ 1048576) 1048576 where
 sl:=fun {t e es sp} _ hq=>by
  simp only [Rows.uptoBulk] at hq
  refine ⟨?_,fun d hd=>?_⟩
  ·have:=bulk_len es; omega
  ·have:=bulk_part hd; omega
 st:=fun {t fs ds} _ hq i f d _ hd=>by
  simp only [Rows.uptoBulk] at hq
  have:=bulk_part (List.mem_of_getElem? hd)
  omega
 tx:=fun {t b} hq=>by
  simp only [Rows.uptoBulk] at hq
  omega
theorem bulk_all {H : Type} {l : List (DataW H)} (h : Rows.uptoSmall H l = true) {d : DataW H} (hd : d ∈ l) : Rows.uptoBulk d ≤ 1048576:=by
 have h1:=bulk_part hd
 have h2:=of_decide_eq_true h
 omega
section
variable {H : Type} {enc : TypeId × Value → H} {w : World} {held : Bool}
theorem open_instr {b0 : Nat} {r : Reach} {v : Value} {d : DataW H} {p : List MemPlace}
  (hv : Value.okWide Tryz.prog w r b0 23 v) (h : DataW.Trod enc Tryz.prog w 0 (fun _=>true) held 23 v d p) : ∃ x : Ins,v = insA x∧InsR x:=by
 obtain ⟨cs,rfl,hsz⟩:=okWide_struct Tryz.underlying23 hv
 obtain ⟨fuel,hf⟩:=h
 have hf2 : DataW.trod enc Tryz.prog w 0 (fun _=>true) held fuel 23 cs.toList = some (d,p):=hf
 obtain ⟨x,e,hr⟩:=open_ins fuel cs.toList _ hf2
 refine ⟨x,?_,hr⟩
 have e2 : cs = (insL3 x).toArray:=by rw [← e]
 rw [e2]
end
end LM
end Go.Proofs.YtaonablbgicmpaaGreatDoor
