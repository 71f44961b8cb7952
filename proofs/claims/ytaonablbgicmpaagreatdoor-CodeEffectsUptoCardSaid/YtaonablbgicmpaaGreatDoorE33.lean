import Derived.Test.YtaonablbgicmpaaGreatDoorE26
import Derived.Test.YtaonablbgicmpaaGreatDoorE14
import Derived.ChangeArms
import Derived.LaidMore
import Derived.Test.YtaonablbgicmpaaGreatDoorE31
set_option linter.unusedVariables false
set_option linter.unusedSimpArgs false
set_option maxRecDepth 100000
set_option maxHeartbeats 16000000
namespace Go.Proofs.YtaonablbgicmpaaGreatDoor
open Go Go.RowKit Go.ChangeShapes
namespace LM
theorem trod_float {H : Type} {enc : TypeId × Value → H} {P : Program} {w : World} {base : Nat} {spare : Nat → Bool} {held : Bool} {fuel : Nat} {t : TypeId} {cs : List Value} {x : DataW H × List MemPlace} {k : FloatKind} (ht : P.underlying t = some (.float k)) (h : DataW.trod enc P w base spare held fuel t cs = some x) : ∃ n,cs = [.float k n]∧x = (.lit (.float k n),[]):=by
 cases fuel with
 | zero=>simp [DataW.trod] at h
 | succ n =>
  unfold DataW.trod at h
  rw [ht] at h
  split at h <;> simp_all
theorem listed_of {l : List (String × DataW Unit)} {W : World} {nm : String} {d : DataW Unit} (h : laidMetH Tryz.prog l W)
  (he : ((l.filter fun x=>x.2.handleName?.isNone).filter fun x=>x.1 == nm) = [(nm,d)]) : laidMet Tryz.prog [(nm,d)] W:=by
 have h1:=(laidMetH_iff.1 h).1.filter fun x=>x.1 == nm
 rw [he] at h1
 exact h1
theorem opt_of {W : World} (h : laidMet Tryz.prog [("internal/strconv.optimize", .lit (.bool true))] W) : W.cell? ⟨4, 0, none⟩ = some (.bool true) ∧ 4 < W.heap.size := by
 obtain ⟨ps,⟨g',t',cs,fuel,p,q,hg',ht',hvar,hd,_,_⟩,_⟩:=h
 obtain rfl := Option.some.inj ((show Tryz.prog.globalNamed "internal/strconv.optimize" = some 4 by kernel_rfl).symm.trans hg')
 obtain rfl:=Option.some.inj ((show (Tryz.prog.globals[4]?).map (·.type) = some 4 by kernel_rfl).symm.trans ht')
 obtain ⟨b,hcs,hx⟩:=DataW.trod_bool Tryz.underlying4 hd
 have hb : b = true:=by
  have:=congrArg Prod.fst hx
  simpa using this.symm
 subst hb
 have hc : W.cell? ⟨4,0,none⟩ = some (.bool true):=(World.var?_cell (by kernel_rfl) hvar 0).trans (by rw [← Array.getElem?_toList,hcs]; rfl)
 exact ⟨hc,(spot_none hc).2⟩
theorem ptab_of {W : World} (h : laidMet Tryz.prog [("internal/strconv.pow10Tab", Go.Pinned.pow10Tab)] W) : PTab W ∧ 9 < W.heap.size := by
 obtain ⟨ps,⟨g',t',cs,fuel,p,q,hg',ht',hvar,hd,_,_⟩,_⟩:=h
 obtain rfl := Option.some.inj ((show Tryz.prog.globalNamed "internal/strconv.pow10Tab" = some 9 by kernel_rfl).symm.trans hg')
 obtain rfl:=Option.some.inj ((show (Tryz.prog.globals[9]?).map (·.type) = some 319 by kernel_rfl).symm.trans ht')
 have hp:=pairs_of_trod (rows:=Go.Pinned.pow10Rows) Tryz.underlying319 Tryz.underlying318 Tryz.underlying121 Tryz.underlying121 rfl rfl (by kernel_rfl) (by kernel_rfl) (by kernel_rfl) (by kernel_rfl) hd
 have hc := fun i => World.var?_cell (show Tryz.prog.globalNamed "internal/strconv.pow10Tab" = some 9 by kernel_rfl) hvar i
 have hP : PTab W:=fun i x hx=>by
  obtain ⟨a,b⟩:=hp i x hx
  exact ⟨(hc _).trans (by rw [← Array.getElem?_toList]; exact a),(hc _).trans (by rw [← Array.getElem?_toList]; exact b)⟩
 exact ⟨hP,(spot_none (hP 0 _ rfl).1).2⟩
theorem info_of {W : World} (h : laidMet Tryz.prog [("internal/strconv.float64info", .agg [.lit (.int .u64 52), .lit (.int .u64 11), .lit (.int .i64 (-1023))])] W) : W.cell? ⟨15, 0, none⟩ = some (.int .u64 52) ∧ 15 < W.heap.size := by
 obtain ⟨ps,⟨g',t',cs,fuel,p,q,hg',ht',hvar,hd,_,_⟩,_⟩:=h
 obtain rfl := Option.some.inj ((show Tryz.prog.globalNamed "internal/strconv.float64info" = some 15 by kernel_rfl).symm.trans hg')
 obtain rfl:=Option.some.inj ((show (Tryz.prog.globals[15]?).map (·.type) = some 343 by kernel_rfl).symm.trans ht')
 obtain ⟨xs,n,_,hx,hl,hxl,hf⟩:=DataW.trod_struct Tryz.underlying343 hd
 have h0:=hf 0 _ rfl
 have hx0 : (xs.map (·.1))[0]? = some (.lit (.int .u64 52)):=by
  have h1:=congrArg Prod.fst hx
  simp only [DataW.agg.injEq] at h1
  rw [← h1]
  rfl
 rw [List.getElem?_map] at hx0
 obtain ⟨x0,hx1,hx2⟩:=Option.map_eq_some_iff.1 hx0
 rw [hx1] at h0
 obtain ⟨z,hc0,hz,_⟩:=DataW.trod_int Tryz.underlying83 h0
 have hz2 : z = 52:=by
  rw [hz] at hx2
  simpa using hx2
 subst hz2
 have hc : W.cell? ⟨15,0,none⟩ = some (.int .u64 52):=(World.var?_cell (by kernel_rfl) hvar 0).trans (by
  rw [← Array.getElem?_toList]
  have h3:=congrArg (·[0]?) hc0
  have h4 : Tryz.prog.cellsOf 83 = 1:=by kernel_rfl
  simpa [List.getElem?_take,List.getElem?_drop,h4] using h3)
 exact ⟨hc,(spot_none hc).2⟩
theorem f64_of {W : World} (h : laidMet Tryz.prog [("internal/strconv.float64pow10", .slice (f64Rows.map fun x => .lit (.float .f64 x)) [])] W) :
  (∃ b n c,W.cell? ⟨18,0,none⟩ = some (.slice (some ⟨b,n,none⟩) 23 c)∧b < W.heap.size∧∀ j x,f64Rows[j]? = some x → W.cell? ⟨b,n + j,none⟩ = some (.float .f64 x))∧18 < W.heap.size:=by
 obtain ⟨ps,⟨g',t',cs,fuel,p,q,hg',ht',hvar,hd,_,_⟩,_⟩:=h
 obtain rfl := Option.some.inj ((show Tryz.prog.globalNamed "internal/strconv.float64pow10" = some 18 by kernel_rfl).symm.trans hg')
 obtain rfl:=Option.some.inj ((show (Tryz.prog.globals[18]?).map (·.type) = some 358 by kernel_rfl).symm.trans ht')
 rcases DataW.trod_slice Tryz.underlying358 hd with ⟨_,hx⟩ | ⟨a,len,cap,elems,rest,n,_,hcs,hx,_,_,_,hel,hall,_,_⟩
 ·have:=congrArg Prod.fst hx
  cases this
 have hc : W.cell? ⟨18,0,none⟩ = some (.slice (some a) len cap):=(World.var?_cell (by kernel_rfl) hvar 0).trans (by rw [← Array.getElem?_toList,hcs]; rfl)
 have hx1 : elems.map (·.1) = f64Rows.map fun x=>.lit (.float .f64 x):=by
  have h1:=congrArg Prod.fst hx
  simp only [DataW.slice.injEq] at h1
  exact h1.1.symm
 have hlen : len = 23:=by
  have h1:=congrArg List.length hx1
  rw [List.length_map,List.length_map] at h1
  rw [← hel,h1]
  rfl
 subst hlen
 have hce : Tryz.prog.cellsOf 37 = 1:=by kernel_rfl
 have hat : ∀ j x,f64Rows[j]? = some x → W.cell? ((a.add (j * 1)).add 0) = some (.float .f64 x):=fun j x hj=>by
  have hjl : j < 23:=(List.getElem?_eq_some_iff.1 hj).1
  have h1:=hall j hjl
  rw [hce] at h1
  have h2 : (elems.map (·.1))[j]? = some (.lit (.float .f64 x)):=by rw [hx1,List.getElem?_map,hj]; rfl
  rw [List.getElem?_map] at h2
  obtain ⟨y,hy,hy1⟩:=Option.map_eq_some_iff.1 h2
  rw [hy] at h1
  obtain ⟨cl,hcl,htr⟩:=Option.bind_eq_some_iff.1 h1
  obtain ⟨z,rfl,hz⟩:=trod_float Tryz.underlying37 htr
  have hzx : z = x:=by
   rw [hz] at hy1
   simpa using hy1
  subst hzx
  exact (World.cells?_some hcl).2.2 0 (by decide)
 obtain ⟨b,off,el⟩:=a
 have h0:=spot_none (hat 0 _ rfl)
 cases el with
 | none =>
  refine ⟨⟨b,off,cap,hc,?_,fun j x hj=>?_⟩,(spot_none hc).2⟩
  ·have:=h0.2
   rwa [Lib.add_plain,Lib.add_plain] at this
  ·have:=hat j x hj
   rwa [Lib.add_plain,Lib.add_plain,Nat.mul_one,Nat.add_zero] at this
 | some e =>
  have:=h0.1
  simp [Addr.add] at this
theorem fv_of {l : List (String × DataW Unit)} {W : World} (h : laidMetH Tryz.prog l W)
  (e1 : ((l.filter fun x => x.2.handleName?.isNone).filter fun x => x.1 == "internal/strconv.uint64pow10") = [("internal/strconv.uint64pow10", Lib.tabData .u64 Lib.pow10Tab)])
  (e2 : ((l.filter fun x => x.2.handleName?.isNone).filter fun x => x.1 == "internal/strconv.pow10Tab") = [("internal/strconv.pow10Tab", Go.Pinned.pow10Tab)])
  (e3 : ((l.filter fun x => x.2.handleName?.isNone).filter fun x => x.1 == "internal/strconv.float64info") = [("internal/strconv.float64info", .agg [.lit (.int .u64 52), .lit (.int .u64 11), .lit (.int .i64 (-1023))])])
  (e4 : ((l.filter fun x => x.2.handleName?.isNone).filter fun x => x.1 == "internal/strconv.optimize") = [("internal/strconv.optimize", .lit (.bool true))])
  (e5 : ((l.filter fun x => x.2.handleName?.isNone).filter fun x => x.1 == "internal/strconv.float64pow10") = [("internal/strconv.float64pow10", .slice (f64Rows.map fun x => .lit (.float .f64 x)) [])]) : FV W := by
 obtain ⟨p1,p2⟩:=ptab_of (listed_of h e2)
 obtain ⟨i1,i2⟩:=info_of (listed_of h e3)
 obtain ⟨o1,o2⟩:=opt_of (listed_of h e4)
 obtain ⟨f1,f2⟩:=f64_of (listed_of h e5)
 exact ⟨p1,tab_of h e1,i1,o1,f1,i2,o2,f2,p2⟩
end LM
end Go.Proofs.YtaonablbgicmpaaGreatDoor
namespace Go.Proofs.YtaonablbgicmpaaGreatDoor
open Go Go.Shelf Go.RowKit Go.Sort Go.Lib
namespace LM
end LM
end Go.Proofs.YtaonablbgicmpaaGreatDoor
namespace Go.Proofs.YtaonablbgicmpaaGreatDoor
open Go Go.RowKit Go.ChangeShapes
namespace LM
theorem rngcell_of {l : List (String × DataW Unit)} {W : World} {nm : String} {d : DataW Unit} (h : laidMetH Tryz.prog l W)
  (he : ((l.filter fun x => x.2.handleName?.isNone).filter fun x => x.1 == "strconv.ErrRange") = [("strconv.ErrRange", .iface nm d)]) :
  RngCell W:=by
 have h1 := (laidMetH_iff.1 h).1.filter fun x => x.1 == "strconv.ErrRange"
 rw [he] at h1
 obtain ⟨ps,⟨g',t',cs,fuel,p,q,hg',ht',hvar,hd,_,_⟩,_⟩:=h1
 obtain rfl := Option.some.inj ((show Tryz.prog.globalNamed "strconv.ErrRange" = some 8 by kernel_rfl).symm.trans hg')
 obtain rfl:=Option.some.inj ((show (Tryz.prog.globals[8]?).map (·.type) = some 102 by kernel_rfl).symm.trans ht')
 obtain ⟨_,u,v,hcs,_,_⟩:=iface_of_trod Tryz.underlying102 hd
 have hc : W.cell? ⟨8,0,none⟩ = some (.iface u v):=(World.var?_cell (by kernel_rfl) hvar 0).trans (by rw [← Array.getElem?_toList,hcs]; rfl)
 exact ⟨_,hc,(spot_none hc).2,.inr ⟨_,_,rfl⟩⟩
theorem info3_of {W : World} (h : laidMet Tryz.prog [("internal/strconv.float64info", .agg [.lit (.int .u64 52), .lit (.int .u64 11), .lit (.int .i64 (-1023))])] W) : W.cell? ⟨15, 0, none⟩ = some (.int .u64 52) ∧ W.cell? ⟨15, 1, none⟩ = some (.int .u64 11) ∧ W.cell? ⟨15, 2, none⟩ = some (.int .i64 (-1023)) ∧ 15 < W.heap.size := by
 obtain ⟨ps,⟨g',t',cs,fuel,p,q,hg',ht',hvar,hd,_,_⟩,_⟩:=h
 obtain rfl := Option.some.inj ((show Tryz.prog.globalNamed "internal/strconv.float64info" = some 15 by kernel_rfl).symm.trans hg')
 obtain rfl:=Option.some.inj ((show (Tryz.prog.globals[15]?).map (·.type) = some 343 by kernel_rfl).symm.trans ht')
 obtain ⟨xs,n,_,hx,hl,hxl,hf⟩:=DataW.trod_struct Tryz.underlying343 hd
 have hxs : xs.map (·.1) = [.lit (.int .u64 52),.lit (.int .u64 11),.lit (.int .i64 (-1023))]:=by
  have h1:=congrArg Prod.fst hx
  simp only [DataW.agg.injEq] at h1
  exact h1.symm
 have hcu : Tryz.prog.cellsOf 83 = 1:=by kernel_rfl
 have hci : Tryz.prog.cellsOf 3 = 1:=by kernel_rfl
 have g0 : W.cell? ⟨15,0,none⟩ = some (.int .u64 52):=by
  have h0:=hf 0 _ rfl
  have hx0 : (xs.map (·.1))[0]? = some (.lit (.int .u64 52)):=by rw [hxs]; rfl
  rw [List.getElem?_map] at hx0
  obtain ⟨x0,hx1,hx2⟩:=Option.map_eq_some_iff.1 hx0
  rw [hx1] at h0
  obtain ⟨z,hc0,hz,_⟩:=DataW.trod_int Tryz.underlying83 h0
  have hz2 : z = 52:=by
   rw [hz] at hx2
   simpa using hx2
  subst hz2
  exact (World.var?_cell (by kernel_rfl) hvar 0).trans (by
   rw [← Array.getElem?_toList]
   have h3:=congrArg (·[0]?) hc0
   simpa [List.getElem?_take,List.getElem?_drop,hcu,hci] using h3)
 have g1 : W.cell? ⟨15,1,none⟩ = some (.int .u64 11):=by
  have h0:=hf 1 _ rfl
  have hx0 : (xs.map (·.1))[1]? = some (.lit (.int .u64 11)):=by rw [hxs]; rfl
  rw [List.getElem?_map] at hx0
  obtain ⟨x0,hx1,hx2⟩:=Option.map_eq_some_iff.1 hx0
  rw [hx1] at h0
  obtain ⟨z,hc0,hz,_⟩:=DataW.trod_int Tryz.underlying83 h0
  have hz2 : z = 11:=by
   rw [hz] at hx2
   simpa using hx2
  subst hz2
  exact (World.var?_cell (by kernel_rfl) hvar 1).trans (by
   rw [← Array.getElem?_toList]
   have h3:=congrArg (·[0]?) hc0
   simpa [List.getElem?_take,List.getElem?_drop,hcu,hci] using h3)
 have g2 : W.cell? ⟨15,2,none⟩ = some (.int .i64 (-1023)):=by
  have h0:=hf 2 _ rfl
  have hx0 : (xs.map (·.1))[2]? = some (.lit (.int .i64 (-1023))):=by rw [hxs]; rfl
  rw [List.getElem?_map] at hx0
  obtain ⟨x0,hx1,hx2⟩:=Option.map_eq_some_iff.1 hx0
  rw [hx1] at h0
  obtain ⟨z,hc0,hz,_⟩:=DataW.trod_int Tryz.underlying3 h0
  have hz2 : z = (-1023):=by
   rw [hz] at hx2
   simpa using hx2
  subst hz2
  exact (World.var?_cell (by kernel_rfl) hvar 2).trans (by
   rw [← Array.getElem?_toList]
   have h3:=congrArg (·[0]?) hc0
   simpa [List.getElem?_take,List.getElem?_drop,hcu,hci] using h3)
 exact ⟨g0,g1,g2,(spot_none g0).2⟩
theorem powtab_of {W : World} (h : laidMet Tryz.prog [("internal/strconv.powtab", .slice (powtabL.map fun x => .lit (.int .i64 ((x : Nat) : Int))) [])] W) :
  (∃ b n c,W.cell? ⟨17,0,none⟩ = some (.slice (some ⟨b,n,none⟩) 9 c)∧b < W.heap.size∧∀ j x,powtabL[j]? = some x → W.cell? ⟨b,n + j,none⟩ = some (.int .i64 ((x : Nat) : Int)))∧17 < W.heap.size:=by
 obtain ⟨ps,⟨g',t',cs,fuel,p,q,hg',ht',hvar,hd,_,_⟩,_⟩:=h
 obtain rfl := Option.some.inj ((show Tryz.prog.globalNamed "internal/strconv.powtab" = some 17 by kernel_rfl).symm.trans hg')
 obtain rfl:=Option.some.inj ((show (Tryz.prog.globals[17]?).map (·.type) = some 124 by kernel_rfl).symm.trans ht')
 rcases DataW.trod_slice Tryz.underlying124 hd with ⟨_,hx⟩ | ⟨a,len,cap,elems,rest,n,_,hcs,hx,_,_,_,hel,hall,_,_⟩
 ·have:=congrArg Prod.fst hx
  cases this
 have hc : W.cell? ⟨17,0,none⟩ = some (.slice (some a) len cap):=(World.var?_cell (by kernel_rfl) hvar 0).trans (by rw [← Array.getElem?_toList,hcs]; rfl)
 have hx1 : elems.map (·.1) = powtabL.map fun x=>.lit (.int .i64 ((x : Nat) : Int)):=by
  have h1:=congrArg Prod.fst hx
  simp only [DataW.slice.injEq] at h1
  exact h1.1.symm
 have hlen : len = 9:=by
  have h1:=congrArg List.length hx1
  rw [List.length_map,List.length_map] at h1
  rw [← hel,h1]
  rfl
 subst hlen
 have hce : Tryz.prog.cellsOf 3 = 1:=by kernel_rfl
 have hat : ∀ j x,powtabL[j]? = some x → W.cell? ((a.add (j * 1)).add 0) = some (.int .i64 ((x : Nat) : Int)):=fun j x hj=>by
  have hjl : j < 9:=(List.getElem?_eq_some_iff.1 hj).1
  have h1:=hall j hjl
  rw [hce] at h1
  have h2 : (elems.map (·.1))[j]? = some (.lit (.int .i64 ((x : Nat) : Int))):=by rw [hx1,List.getElem?_map,hj]; rfl
  rw [List.getElem?_map] at h2
  obtain ⟨y,hy,hy1⟩:=Option.map_eq_some_iff.1 h2
  rw [hy] at h1
  obtain ⟨cl,hcl,htr⟩:=Option.bind_eq_some_iff.1 h1
  obtain ⟨z,rfl,hz,_⟩:=DataW.trod_int Tryz.underlying3 htr
  have hzx : z = (x : Int):=by
   rw [hz] at hy1
   simpa using hy1
  subst hzx
  exact (World.cells?_some hcl).2.2 0 (by decide)
 obtain ⟨b,off,el⟩:=a
 have h0:=spot_none (hat 0 _ rfl)
 cases el with
 | none =>
  refine ⟨⟨b,off,cap,hc,?_,fun j x hj=>?_⟩,(spot_none hc).2⟩
  ·have:=h0.2
   rwa [Lib.add_plain,Lib.add_plain] at this
  ·have:=hat j x hj
   rwa [Lib.add_plain,Lib.add_plain,Nat.mul_one,Nat.add_zero] at this
 | some e =>
  have:=h0.1
  simp [Addr.add] at this
theorem cheats_of {W : World} (h : laidMet Tryz.prog [("internal/strconv.leftcheats", Go.Pinned.leftcheats)] W) :
  CT W∧10 < W.heap.size:=by
 obtain ⟨ps,⟨g',t',cs,fuel,p,q,hg',ht',hvar,hd,_,_⟩,_⟩:=h
 obtain rfl := Option.some.inj ((show Tryz.prog.globalNamed "internal/strconv.leftcheats" = some 10 by kernel_rfl).symm.trans hg')
 obtain rfl:=Option.some.inj ((show (Tryz.prog.globals[10]?).map (·.type) = some 324 by kernel_rfl).symm.trans ht')
 rcases DataW.trod_slice Tryz.underlying324 hd with ⟨_,hx⟩ | ⟨a,len,cap,elems,rest,n,_,hcs,hx,_,_,_,hel,hall,_,_⟩
 ·have:=congrArg Prod.fst hx
  cases this
 have hc : W.cell? ⟨10,0,none⟩ = some (.slice (some a) len cap):=(World.var?_cell (by kernel_rfl) hvar 0).trans (by rw [← Array.getElem?_toList,hcs]; rfl)
 have hx1 : elems.map (·.1) = Go.Pinned.cheatRows.map fun x=>(DataW.agg [.lit (.int .i64 x.1),.lit (.string x.2)] : DataW Unit):=by
  have h1:=congrArg Prod.fst hx
  unfold Go.Pinned.leftcheats at h1
  simp only [DataW.slice.injEq] at h1
  exact h1.1.symm
 have hrl : Go.Pinned.cheatRows.length = 61:=by kernel_rfl
 have hlen : len = 61:=by
  have h1:=congrArg List.length hx1
  rw [List.length_map,List.length_map,hrl] at h1
  rw [← hel,h1]
 subst hlen
 have hce : Tryz.prog.cellsOf 323 = 2:=by kernel_rfl
 have hci : Tryz.prog.cellsOf 3 = 1:=by kernel_rfl
 have hcs1 : Tryz.prog.cellsOf 9 = 1:=by kernel_rfl
 have hat : ∀ j x,Go.Pinned.cheatRows[j]? = some x → W.cell? ((a.add (j * 2)).add 0) = some (.int .i64 ((x.1 : Nat) : Int))∧W.cell? ((a.add (j * 2)).add 1) = some (.string ⟨x.2.toArray⟩):=fun j x hj=>by
  have hjl : j < 61:=hrl ▸ (List.getElem?_eq_some_iff.1 hj).1
  have h1:=hall j hjl
  rw [hce] at h1
  have h2 : (elems.map (·.1))[j]? = some (DataW.agg [.lit (.int .i64 x.1),.lit (.string x.2)] : DataW Unit):=by rw [hx1,List.getElem?_map,hj]; rfl
  rw [List.getElem?_map] at h2
  obtain ⟨y,hy,hy1⟩:=Option.map_eq_some_iff.1 h2
  rw [hy] at h1
  obtain ⟨cl,hcl,htr⟩:=Option.bind_eq_some_iff.1 h1
  obtain ⟨xs,m,_,hx2,hl2,hxl,hf⟩:=DataW.trod_struct Tryz.underlying323 htr
  have hxs : xs.map (·.1) = [.lit (.int .i64 x.1),.lit (.string x.2)]:=by
   rw [hx2] at hy1
   simpa using hy1
  have k0:=hf 0 _ rfl
  have k1:=hf 1 _ rfl
  have q0 : (xs.map (·.1))[0]? = some (.lit (.int .i64 x.1)):=by rw [hxs]; rfl
  have q1 : (xs.map (·.1))[1]? = some (.lit (.string x.2)):=by rw [hxs]; rfl
  rw [List.getElem?_map] at q0 q1
  obtain ⟨x0,hx3,hx4⟩:=Option.map_eq_some_iff.1 q0
  obtain ⟨x1,hx5,hx6⟩:=Option.map_eq_some_iff.1 q1
  rw [hx3] at k0
  rw [hx5] at k1
  obtain ⟨z,hc0,hz,_⟩:=DataW.trod_int Tryz.underlying3 k0
  obtain ⟨sb,hc1,hs1,_⟩:=DataW.trod_string Tryz.underlying9 k1
  have hz2 : z = (x.1 : Int):=by
   rw [hz] at hx4
   simpa using hx4
  have hs2 : sb.data.toList = x.2:=by
   rw [hs1] at hx6
   simpa using hx6
  subst hz2
  have hs3 : sb = ⟨x.2.toArray⟩:=by
   rw [← hs2]
  have d0 : cl[0]? = some (.int .i64 ((x.1 : Nat) : Int)):=by
   have h3:=congrArg (·[0]?) hc0
   simpa [List.getElem?_take,List.getElem?_drop,hci] using h3
  have d1 : cl[1]? = some (.string sb):=by
   have h3:=congrArg (·[0]?) hc1
   simpa [List.getElem?_take,List.getElem?_drop,hcs1] using h3
  rw [hs3] at d1
  have hw:=World.cells?_some hcl
  exact ⟨(hw.2.2 0 (by decide)).trans d0,(hw.2.2 1 (by decide)).trans d1⟩
 obtain ⟨b,off,el⟩:=a
 have h0:=spot_none (hat 0 _ rfl).1
 cases el with
 | none =>
  refine ⟨⟨b,off,cap,hc,?_,fun j x hj=>?_⟩,(spot_none hc).2⟩
  ·have:=h0.2
   rwa [Lib.add_plain,Lib.add_plain] at this
  ·have:=hat j x hj
   rw [Lib.add_plain,Lib.add_plain,Lib.add_plain,Nat.add_zero] at this
   exact this
 | some e =>
  have:=h0.1
  simp [Addr.add] at this
theorem fx_of {l : List (String × DataW Unit)} {W : World} (h : laidMetH Tryz.prog l W)
  (e1 : ((l.filter fun x => x.2.handleName?.isNone).filter fun x => x.1 == "internal/strconv.leftcheats") = [("internal/strconv.leftcheats", Go.Pinned.leftcheats)])
  (e2 : ((l.filter fun x => x.2.handleName?.isNone).filter fun x => x.1 == "internal/strconv.powtab") = [("internal/strconv.powtab", .slice (powtabL.map fun x => .lit (.int .i64 ((x : Nat) : Int))) [])])
  (e3 : ((l.filter fun x => x.2.handleName?.isNone).filter fun x => x.1 == "internal/strconv.float64info") = [("internal/strconv.float64info", .agg [.lit (.int .u64 52), .lit (.int .u64 11), .lit (.int .i64 (-1023))])]) : FX W := by
 obtain ⟨c1,c2⟩:=cheats_of (listed_of h e1)
 obtain ⟨p1,p2⟩:=powtab_of (listed_of h e2)
 obtain ⟨i0,i1,i2,i3⟩:=info3_of (listed_of h e3)
 exact ⟨c1,p1,i0,i1,i2,c2,p2,i3⟩
end LM
end Go.Proofs.YtaonablbgicmpaaGreatDoor
