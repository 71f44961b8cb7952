import Derived.Test.YtihbgghlnppkiaaGreatDoorR38
import Derived.Test.YtihbgghlnppkiaaGreatDoorR40
import Derived.Test.YtihbgghlnppkiaaGreatDoorR14
set_option linter.unusedVariables false
set_option linter.unusedSimpArgs false
set_option maxRecDepth 100000
set_option maxHeartbeats 16000000
namespace Go.Proofs.YtihbgghlnppkiaaGreatDoor
open Go Go.Shelf Go.RowKit Go.Sort Go.Lib
namespace LM
structure TV (w : World) : Prop where
  pow : PTab w
  tab : Lib.TabIs Tryz.prog w "internal/strconv.uint64pow10" .u64 Lib.pow10Tab
  size : 11 < w.heap.size
end LM
end Go.Proofs.YtihbgghlnppkiaaGreatDoor
namespace Go.Proofs.YtihbgghlnppkiaaGreatDoor
open Go Go.RowKit Go.ChangeShapes
namespace LM
theorem rngcell_of {l : List (String × DataW Unit)} {W : World} {nm : String} {d : DataW Unit} (h : laidMetH Tryz.prog l W)
    (he : ((l.filter fun x => x.2.handleName?.isNone).filter fun x => x.1 == "strconv.ErrRange") = [("strconv.ErrRange", .iface nm d)]) :
    RngCell W:=by
  have h1 := (laidMetH_iff.1 h).1.filter fun x => x.1 == "strconv.ErrRange"
  rw [he] at h1
  obtain ⟨ps,⟨g',t',cs,fuel,p,q,hg',ht',hvar,hd,_,_⟩,_⟩:=h1
  obtain rfl := Option.some.inj ((show Tryz.prog.globalNamed "strconv.ErrRange" = some 8 by kernel_rfl).symm.trans hg')
  obtain rfl:=Option.some.inj ((show (Tryz.prog.globals[8]?).map (·.type) = some 140 by kernel_rfl).symm.trans ht')
  obtain ⟨_,u,v,hcs,_,_⟩:=iface_of_trod Tryz.underlying140 hd
  have hc : W.cell? ⟨8,0,none⟩ = some (.iface u v):=(World.var?_cell (by kernel_rfl) hvar 0).trans (by rw [← Array.getElem?_toList,hcs]; rfl)
  exact ⟨_,hc,(spot_none hc).2,.inr ⟨_,_,rfl⟩⟩
theorem info3_of {W : World} (h : laidMet Tryz.prog [("internal/strconv.float64info", .agg [.lit (.int .u64 52), .lit (.int .u64 11), .lit (.int .i64 (-1023))])] W) : W.cell? ⟨16, 0, none⟩ = some (.int .u64 52) ∧ W.cell? ⟨16, 1, none⟩ = some (.int .u64 11) ∧ W.cell? ⟨16, 2, none⟩ = some (.int .i64 (-1023)) ∧ 16 < W.heap.size := by
  obtain ⟨ps,⟨g',t',cs,fuel,p,q,hg',ht',hvar,hd,_,_⟩,_⟩:=h
  obtain rfl := Option.some.inj ((show Tryz.prog.globalNamed "internal/strconv.float64info" = some 16 by kernel_rfl).symm.trans hg')
  obtain rfl:=Option.some.inj ((show (Tryz.prog.globals[16]?).map (·.type) = some 302 by kernel_rfl).symm.trans ht')
  obtain ⟨xs,n,_,hx,hl,hxl,hf⟩:=DataW.trod_struct Tryz.underlying302 hd
  have hxs : xs.map (·.1) = [.lit (.int .u64 52),.lit (.int .u64 11),.lit (.int .i64 (-1023))]:=by
    have h1:=congrArg Prod.fst hx
    simp only [DataW.agg.injEq] at h1
    exact h1.symm
  have hcu : Tryz.prog.cellsOf 97 = 1:=by kernel_rfl
  have hci : Tryz.prog.cellsOf 3 = 1:=by kernel_rfl
  have g0 : W.cell? ⟨16,0,none⟩ = some (.int .u64 52):=by
    have h0:=hf 0 _ rfl
    have hx0 : (xs.map (·.1))[0]? = some (.lit (.int .u64 52)):=by rw [hxs]; rfl
    rw [List.getElem?_map] at hx0
    obtain ⟨x0,hx1,hx2⟩:=Option.map_eq_some_iff.1 hx0
    rw [hx1] at h0
    obtain ⟨z,hc0,hz,_⟩:=DataW.trod_int Tryz.underlying97 h0
    have hz2 : z = 52:=by
      rw [hz] at hx2
      simpa using hx2
    subst hz2
    exact (World.var?_cell (by kernel_rfl) hvar 0).trans (by
      rw [← Array.getElem?_toList]
      have h3:=congrArg (·[0]?) hc0
      simpa [List.getElem?_take,List.getElem?_drop,hcu,hci] using h3)
  have g1 : W.cell? ⟨16,1,none⟩ = some (.int .u64 11):=by
    have h0:=hf 1 _ rfl
    have hx0 : (xs.map (·.1))[1]? = some (.lit (.int .u64 11)):=by rw [hxs]; rfl
    rw [List.getElem?_map] at hx0
    obtain ⟨x0,hx1,hx2⟩:=Option.map_eq_some_iff.1 hx0
    rw [hx1] at h0
    obtain ⟨z,hc0,hz,_⟩:=DataW.trod_int Tryz.underlying97 h0
    have hz2 : z = 11:=by
      rw [hz] at hx2
      simpa using hx2
    subst hz2
    exact (World.var?_cell (by kernel_rfl) hvar 1).trans (by
      rw [← Array.getElem?_toList]
      have h3:=congrArg (·[0]?) hc0
      simpa [List.getElem?_take,List.getElem?_drop,hcu,hci] using h3)
  have g2 : W.cell? ⟨16,2,none⟩ = some (.int .i64 (-1023)):=by
    have h0:=hf 2 _ rfl
    have hx0 : (xs.map (·.1))[2]? = some (.lit (.int .i64 (-1023))):=by rw [hxs]; rfl
    rw [List.getElem?_map] at hx0
    obtain ⟨x0,hx1,hx2⟩:=Option.map_eq_some_iff.1 hx0
    rw [hx1] at h0
    obtain ⟨z,hc0,hz,_⟩:=DataW.trod_int Tryz.underlying3 h0
    have hz2 : z = (-1023):=by
      rw [hz] at hx2
      simpa using hx2
    subst hz2
    exact (World.var?_cell (by kernel_rfl) hvar 2).trans (by
      rw [← Array.getElem?_toList]
      have h3:=congrArg (·[0]?) hc0
      simpa [List.getElem?_take,List.getElem?_drop,hcu,hci] using h3)
  exact ⟨g0,g1,g2,(spot_none g0).2⟩
theorem powtab_of {W : World} (h : laidMet Tryz.prog [("internal/strconv.powtab", .slice (powtabL.map fun x => .lit (.int .i64 ((x : Nat) : Int))) [])] W) :
    (∃ b n c,W.cell? ⟨18,0,none⟩ = some (.slice (some ⟨b,n,none⟩) 9 c)∧b < W.heap.size∧∀ j x,powtabL[j]? = some x → W.cell? ⟨b,n + j,none⟩ = some (.int .i64 ((x : Nat) : Int)))∧18 < W.heap.size:=by
  obtain ⟨ps,⟨g',t',cs,fuel,p,q,hg',ht',hvar,hd,_,_⟩,_⟩:=h
  obtain rfl := Option.some.inj ((show Tryz.prog.globalNamed "internal/strconv.powtab" = some 18 by kernel_rfl).symm.trans hg')
  obtain rfl:=Option.some.inj ((show (Tryz.prog.globals[18]?).map (·.type) = some 36 by kernel_rfl).symm.trans ht')
  rcases DataW.trod_slice Tryz.underlying36 hd with ⟨_,hx⟩ | ⟨a,len,cap,elems,rest,n,_,hcs,hx,_,_,_,hel,hall,_,_⟩
  · have:=congrArg Prod.fst hx
    cases this
  have hc : W.cell? ⟨18,0,none⟩ = some (.slice (some a) len cap):=(World.var?_cell (by kernel_rfl) hvar 0).trans (by rw [← Array.getElem?_toList,hcs]; rfl)
  have hx1 : elems.map (·.1) = powtabL.map fun x=>.lit (.int .i64 ((x : Nat) : Int)):=by
    have h1:=congrArg Prod.fst hx
    simp only [DataW.slice.injEq] at h1
    exact h1.1.symm
  have hlen : len = 9:=by
    have h1:=congrArg List.length hx1
    rw [List.length_map,List.length_map] at h1
    rw [← hel,h1]
    rfl
  subst hlen
  have hce : Tryz.prog.cellsOf 3 = 1:=by kernel_rfl
  have hat : ∀ j x,powtabL[j]? = some x → W.cell? ((a.add (j * 1)).add 0) = some (.int .i64 ((x : Nat) : Int)):=fun j x hj=>by
    have hjl : j < 9:=(List.getElem?_eq_some_iff.1 hj).1
    have h1:=hall j hjl
    rw [hce] at h1
    have h2 : (elems.map (·.1))[j]? = some (.lit (.int .i64 ((x : Nat) : Int))):=by rw [hx1,List.getElem?_map,hj]; rfl
    rw [List.getElem?_map] at h2
    obtain ⟨y,hy,hy1⟩:=Option.map_eq_some_iff.1 h2
    rw [hy] at h1
    obtain ⟨cl,hcl,htr⟩:=Option.bind_eq_some_iff.1 h1
    obtain ⟨z,rfl,hz,_⟩:=DataW.trod_int Tryz.underlying3 htr
    have hzx : z = (x : Int):=by
      rw [hz] at hy1
      simpa using hy1
    subst hzx
    exact (World.cells?_some hcl).2.2 0 (by decide)
  obtain ⟨b,off,el⟩:=a
  have h0:=spot_none (hat 0 _ rfl)
  cases el with
  | none =>
    refine ⟨⟨b,off,cap,hc,?_,fun j x hj=>?_⟩,(spot_none hc).2⟩
    · have:=h0.2
      rwa [Lib.add_plain,Lib.add_plain] at this
    · have:=hat j x hj
      rwa [Lib.add_plain,Lib.add_plain,Nat.mul_one,Nat.add_zero] at this
  | some e =>
    have:=h0.1
    simp [Addr.add] at this
theorem cheats_of {W : World} (h : laidMet Tryz.prog [("internal/strconv.leftcheats", Go.Pinned.leftcheats)] W) :
    CT W∧12 < W.heap.size:=by
  obtain ⟨ps,⟨g',t',cs,fuel,p,q,hg',ht',hvar,hd,_,_⟩,_⟩:=h
  obtain rfl := Option.some.inj ((show Tryz.prog.globalNamed "internal/strconv.leftcheats" = some 12 by kernel_rfl).symm.trans hg')
  obtain rfl:=Option.some.inj ((show (Tryz.prog.globals[12]?).map (·.type) = some 291 by kernel_rfl).symm.trans ht')
  rcases DataW.trod_slice Tryz.underlying291 hd with ⟨_,hx⟩ | ⟨a,len,cap,elems,rest,n,_,hcs,hx,_,_,_,hel,hall,_,_⟩
  · have:=congrArg Prod.fst hx
    cases this
  have hc : W.cell? ⟨12,0,none⟩ = some (.slice (some a) len cap):=(World.var?_cell (by kernel_rfl) hvar 0).trans (by rw [← Array.getElem?_toList,hcs]; rfl)
  have hx1 : elems.map (·.1) = Go.Pinned.cheatRows.map fun x=>(DataW.agg [.lit (.int .i64 x.1),.lit (.string x.2)] : DataW Unit):=by
    have h1:=congrArg Prod.fst hx
    unfold Go.Pinned.leftcheats at h1
    simp only [DataW.slice.injEq] at h1
    exact h1.1.symm
  have hrl : Go.Pinned.cheatRows.length = 61:=by kernel_rfl
  have hlen : len = 61:=by
    have h1:=congrArg List.length hx1
    rw [List.length_map,List.length_map,hrl] at h1
    rw [← hel,h1]
  subst hlen
  have hce : Tryz.prog.cellsOf 290 = 2:=by kernel_rfl
  have hci : Tryz.prog.cellsOf 3 = 1:=by kernel_rfl
  have hcs1 : Tryz.prog.cellsOf 9 = 1:=by kernel_rfl
  have hat : ∀ j x,Go.Pinned.cheatRows[j]? = some x → W.cell? ((a.add (j * 2)).add 0) = some (.int .i64 ((x.1 : Nat) : Int))∧W.cell? ((a.add (j * 2)).add 1) = some (.string ⟨x.2.toArray⟩):=fun j x hj=>by
    have hjl : j < 61:=hrl ▸ (List.getElem?_eq_some_iff.1 hj).1
    have h1:=hall j hjl
    rw [hce] at h1
    have h2 : (elems.map (·.1))[j]? = some (DataW.agg [.lit (.int .i64 x.1),.lit (.string x.2)] : DataW Unit):=by rw [hx1,List.getElem?_map,hj]; rfl
    rw [List.getElem?_map] at h2
    obtain ⟨y,hy,hy1⟩:=Option.map_eq_some_iff.1 h2
    rw [hy] at h1
    obtain ⟨cl,hcl,htr⟩:=Option.bind_eq_some_iff.1 h1
    obtain ⟨xs,m,_,hx2,hl2,hxl,hf⟩:=DataW.trod_struct Tryz.underlying290 htr
    have hxs : xs.map (·.1) = [.lit (.int .i64 x.1),.lit (.string x.2)]:=by
      rw [hx2] at hy1
      simpa using hy1
    have k0:=hf 0 _ rfl
    have k1:=hf 1 _ rfl
    have q0 : (xs.map (·.1))[0]? = some (.lit (.int .i64 x.1)):=by rw [hxs]; rfl
    have q1 : (xs.map (·.1))[1]? = some (.lit (.string x.2)):=by rw [hxs]; rfl
    rw [List.getElem?_map] at q0 q1
    obtain ⟨x0,hx3,hx4⟩:=Option.map_eq_some_iff.1 q0
    obtain ⟨x1,hx5,hx6⟩:=Option.map_eq_some_iff.1 q1
    rw [hx3] at k0
    rw [hx5] at k1
    obtain ⟨z,hc0,hz,_⟩:=DataW.trod_int Tryz.underlying3 k0
    obtain ⟨sb,hc1,hs1,_⟩:=DataW.trod_string Tryz.underlying9 k1
    have hz2 : z = (x.1 : Int):=by
      rw [hz] at hx4
      simpa using hx4
    have hs2 : sb.data.toList = x.2:=by
      rw [hs1] at hx6
      simpa using hx6
    subst hz2
    have hs3 : sb = ⟨x.2.toArray⟩:=by
      rw [← hs2]
    have d0 : cl[0]? = some (.int .i64 ((x.1 : Nat) : Int)):=by
      have h3:=congrArg (·[0]?) hc0
      simpa [List.getElem?_take,List.getElem?_drop,hci] using h3
    have d1 : cl[1]? = some (.string sb):=by
      have h3:=congrArg (·[0]?) hc1
      simpa [List.getElem?_take,List.getElem?_drop,hcs1] using h3
    rw [hs3] at d1
    have hw:=World.cells?_some hcl
    exact ⟨(hw.2.2 0 (by decide)).trans d0,(hw.2.2 1 (by decide)).trans d1⟩
  obtain ⟨b,off,el⟩:=a
  have h0:=spot_none (hat 0 _ rfl).1
  cases el with
  | none =>
    refine ⟨⟨b,off,cap,hc,?_,fun j x hj=>?_⟩,(spot_none hc).2⟩
    · have:=h0.2
      rwa [Lib.add_plain,Lib.add_plain] at this
    · have:=hat j x hj
      rw [Lib.add_plain,Lib.add_plain,Lib.add_plain,Nat.add_zero] at this
      exact this
  | some e =>
    have:=h0.1
    simp [Addr.add] at this
theorem fx_of {l : List (String × DataW Unit)} {W : World} (h : laidMetH Tryz.prog l W)
    (e1 : ((l.filter fun x => x.2.handleName?.isNone).filter fun x => x.1 == "internal/strconv.leftcheats") = [("internal/strconv.leftcheats", Go.Pinned.leftcheats)])
    (e2 : ((l.filter fun x => x.2.handleName?.isNone).filter fun x => x.1 == "internal/strconv.powtab") = [("internal/strconv.powtab", .slice (powtabL.map fun x => .lit (.int .i64 ((x : Nat) : Int))) [])])
    (e3 : ((l.filter fun x => x.2.handleName?.isNone).filter fun x => x.1 == "internal/strconv.float64info") = [("internal/strconv.float64info", .agg [.lit (.int .u64 52), .lit (.int .u64 11), .lit (.int .i64 (-1023))])]) : FX W := by
  obtain ⟨c1,c2⟩:=cheats_of (listed_of h e1)
  obtain ⟨p1,p2⟩:=powtab_of (listed_of h e2)
  obtain ⟨i0,i1,i2,i3⟩:=info3_of (listed_of h e3)
  exact ⟨c1,p1,i0,i1,i2,c2,p2,i3⟩
end LM
end Go.Proofs.YtihbgghlnppkiaaGreatDoor
