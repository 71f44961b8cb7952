import Derived.Test.YtihbgghlnppkiaaGreatDoorR32
import Derived.Test.YtihbgghlnppkiaaGreatDoorR14
import Derived.ChangeArms
import Derived.LaidMore
set_option linter.unusedVariables false
set_option linter.unusedSimpArgs false
set_option maxRecDepth 100000
set_option maxHeartbeats 16000000
namespace Go.Proofs.YtihbgghlnppkiaaGreatDoor
open Go Go.RowKit Go.ChangeShapes
namespace LM
theorem trod_float {H : Type} {enc : TypeId × Value → H} {P : Program} {w : World} {base : Nat} {spare : Nat → Bool} {held : Bool} {fuel : Nat} {t : TypeId} {cs : List Value} {x : DataW H × List MemPlace} {k : FloatKind} (ht : P.underlying t = some (.float k)) (h : DataW.trod enc P w base spare held fuel t cs = some x) : ∃ n,cs = [.float k n]∧x = (.lit (.float k n),[]):=by
  cases fuel with
  | zero=>simp [DataW.trod] at h
  | succ n =>
    unfold DataW.trod at h
    rw [ht] at h
    split at h <;> simp_all
theorem listed_of {l : List (String × DataW Unit)} {W : World} {nm : String} {d : DataW Unit} (h : laidMetH Tryz.prog l W)
    (he : ((l.filter fun x=>x.2.handleName?.isNone).filter fun x=>x.1 == nm) = [(nm,d)]) : laidMet Tryz.prog [(nm,d)] W:=by
  have h1:=(laidMetH_iff.1 h).1.filter fun x=>x.1 == nm
  rw [he] at h1
  exact h1
theorem opt_of {W : World} (h : laidMet Tryz.prog [("internal/strconv.optimize", .lit (.bool true))] W) : W.cell? ⟨5, 0, none⟩ = some (.bool true) ∧ 5 < W.heap.size := by
  obtain ⟨ps,⟨g',t',cs,fuel,p,q,hg',ht',hvar,hd,_,_⟩,_⟩:=h
  obtain rfl := Option.some.inj ((show Tryz.prog.globalNamed "internal/strconv.optimize" = some 5 by kernel_rfl).symm.trans hg')
  obtain rfl:=Option.some.inj ((show (Tryz.prog.globals[5]?).map (·.type) = some 4 by kernel_rfl).symm.trans ht')
  obtain ⟨b,hcs,hx⟩:=DataW.trod_bool Tryz.underlying4 hd
  have hb : b = true:=by
    have:=congrArg Prod.fst hx
    simpa using this.symm
  subst hb
  have hc : W.cell? ⟨5,0,none⟩ = some (.bool true):=(World.var?_cell (by kernel_rfl) hvar 0).trans (by rw [← Array.getElem?_toList,hcs]; rfl)
  exact ⟨hc,(spot_none hc).2⟩
theorem ptab_of {W : World} (h : laidMet Tryz.prog [("internal/strconv.pow10Tab", Go.Pinned.pow10Tab)] W) : PTab W ∧ 11 < W.heap.size := by
  obtain ⟨ps,⟨g',t',cs,fuel,p,q,hg',ht',hvar,hd,_,_⟩,_⟩:=h
  obtain rfl := Option.some.inj ((show Tryz.prog.globalNamed "internal/strconv.pow10Tab" = some 11 by kernel_rfl).symm.trans hg')
  obtain rfl:=Option.some.inj ((show (Tryz.prog.globals[11]?).map (·.type) = some 286 by kernel_rfl).symm.trans ht')
  have hp:=pairs_of_trod (rows:=Go.Pinned.pow10Rows) Tryz.underlying286 Tryz.underlying285 Tryz.underlying131 Tryz.underlying131 rfl rfl (by kernel_rfl) (by kernel_rfl) (by kernel_rfl) (by kernel_rfl) hd
  have hc := fun i => World.var?_cell (show Tryz.prog.globalNamed "internal/strconv.pow10Tab" = some 11 by kernel_rfl) hvar i
  have hP : PTab W:=fun i x hx=>by
    obtain ⟨a,b⟩:=hp i x hx
    exact ⟨(hc _).trans (by rw [← Array.getElem?_toList]; exact a),(hc _).trans (by rw [← Array.getElem?_toList]; exact b)⟩
  exact ⟨hP,(spot_none (hP 0 _ rfl).1).2⟩
theorem info_of {W : World} (h : laidMet Tryz.prog [("internal/strconv.float64info", .agg [.lit (.int .u64 52), .lit (.int .u64 11), .lit (.int .i64 (-1023))])] W) : W.cell? ⟨16, 0, none⟩ = some (.int .u64 52) ∧ 16 < W.heap.size := by
  obtain ⟨ps,⟨g',t',cs,fuel,p,q,hg',ht',hvar,hd,_,_⟩,_⟩:=h
  obtain rfl := Option.some.inj ((show Tryz.prog.globalNamed "internal/strconv.float64info" = some 16 by kernel_rfl).symm.trans hg')
  obtain rfl:=Option.some.inj ((show (Tryz.prog.globals[16]?).map (·.type) = some 302 by kernel_rfl).symm.trans ht')
  obtain ⟨xs,n,_,hx,hl,hxl,hf⟩:=DataW.trod_struct Tryz.underlying302 hd
  have h0:=hf 0 _ rfl
  have hx0 : (xs.map (·.1))[0]? = some (.lit (.int .u64 52)):=by
    have h1:=congrArg Prod.fst hx
    simp only [DataW.agg.injEq] at h1
    rw [← h1]
    rfl
  rw [List.getElem?_map] at hx0
  obtain ⟨x0,hx1,hx2⟩:=Option.map_eq_some_iff.1 hx0
  rw [hx1] at h0
  obtain ⟨z,hc0,hz,_⟩:=DataW.trod_int Tryz.underlying97 h0
  have hz2 : z = 52:=by
    rw [hz] at hx2
    simpa using hx2
  subst hz2
  have hc : W.cell? ⟨16,0,none⟩ = some (.int .u64 52):=(World.var?_cell (by kernel_rfl) hvar 0).trans (by
    rw [← Array.getElem?_toList]
    have h3:=congrArg (·[0]?) hc0
    have h4 : Tryz.prog.cellsOf 97 = 1:=by kernel_rfl
    simpa [List.getElem?_take,List.getElem?_drop,h4] using h3)
  exact ⟨hc,(spot_none hc).2⟩
theorem f64_of {W : World} (h : laidMet Tryz.prog [("internal/strconv.float64pow10", .slice (f64Rows.map fun x => .lit (.float .f64 x)) [])] W) :
    (∃ b n c,W.cell? ⟨19,0,none⟩ = some (.slice (some ⟨b,n,none⟩) 23 c)∧b < W.heap.size∧∀ j x,f64Rows[j]? = some x → W.cell? ⟨b,n + j,none⟩ = some (.float .f64 x))∧19 < W.heap.size:=by
  obtain ⟨ps,⟨g',t',cs,fuel,p,q,hg',ht',hvar,hd,_,_⟩,_⟩:=h
  obtain rfl := Option.some.inj ((show Tryz.prog.globalNamed "internal/strconv.float64pow10" = some 19 by kernel_rfl).symm.trans hg')
  obtain rfl:=Option.some.inj ((show (Tryz.prog.globals[19]?).map (·.type) = some 317 by kernel_rfl).symm.trans ht')
  rcases DataW.trod_slice Tryz.underlying317 hd with ⟨_,hx⟩ | ⟨a,len,cap,elems,rest,n,_,hcs,hx,_,_,_,hel,hall,_,_⟩
  · have:=congrArg Prod.fst hx
    cases this
  have hc : W.cell? ⟨19,0,none⟩ = some (.slice (some a) len cap):=(World.var?_cell (by kernel_rfl) hvar 0).trans (by rw [← Array.getElem?_toList,hcs]; rfl)
  have hx1 : elems.map (·.1) = f64Rows.map fun x=>.lit (.float .f64 x):=by
    have h1:=congrArg Prod.fst hx
    simp only [DataW.slice.injEq] at h1
    exact h1.1.symm
  have hlen : len = 23:=by
    have h1:=congrArg List.length hx1
    rw [List.length_map,List.length_map] at h1
    rw [← hel,h1]
    rfl
  subst hlen
  have hce : Tryz.prog.cellsOf 58 = 1:=by kernel_rfl
  have hat : ∀ j x,f64Rows[j]? = some x → W.cell? ((a.add (j * 1)).add 0) = some (.float .f64 x):=fun j x hj=>by
    have hjl : j < 23:=(List.getElem?_eq_some_iff.1 hj).1
    have h1:=hall j hjl
    rw [hce] at h1
    have h2 : (elems.map (·.1))[j]? = some (.lit (.float .f64 x)):=by rw [hx1,List.getElem?_map,hj]; rfl
    rw [List.getElem?_map] at h2
    obtain ⟨y,hy,hy1⟩:=Option.map_eq_some_iff.1 h2
    rw [hy] at h1
    obtain ⟨cl,hcl,htr⟩:=Option.bind_eq_some_iff.1 h1
    obtain ⟨z,rfl,hz⟩:=trod_float Tryz.underlying58 htr
    have hzx : z = x:=by
      rw [hz] at hy1
      simpa using hy1
    subst hzx
    exact (World.cells?_some hcl).2.2 0 (by decide)
  obtain ⟨b,off,el⟩:=a
  have h0:=spot_none (hat 0 _ rfl)
  cases el with
  | none =>
    refine ⟨⟨b,off,cap,hc,?_,fun j x hj=>?_⟩,(spot_none hc).2⟩
    · have:=h0.2
      rwa [Lib.add_plain,Lib.add_plain] at this
    · have:=hat j x hj
      rwa [Lib.add_plain,Lib.add_plain,Nat.mul_one,Nat.add_zero] at this
  | some e =>
    have:=h0.1
    simp [Addr.add] at this
theorem fv_of {l : List (String × DataW Unit)} {W : World} (h : laidMetH Tryz.prog l W)
    (e1 : ((l.filter fun x => x.2.handleName?.isNone).filter fun x => x.1 == "internal/strconv.uint64pow10") = [("internal/strconv.uint64pow10", Lib.tabData .u64 Lib.pow10Tab)])
    (e2 : ((l.filter fun x => x.2.handleName?.isNone).filter fun x => x.1 == "internal/strconv.pow10Tab") = [("internal/strconv.pow10Tab", Go.Pinned.pow10Tab)])
    (e3 : ((l.filter fun x => x.2.handleName?.isNone).filter fun x => x.1 == "internal/strconv.float64info") = [("internal/strconv.float64info", .agg [.lit (.int .u64 52), .lit (.int .u64 11), .lit (.int .i64 (-1023))])])
    (e4 : ((l.filter fun x => x.2.handleName?.isNone).filter fun x => x.1 == "internal/strconv.optimize") = [("internal/strconv.optimize", .lit (.bool true))])
    (e5 : ((l.filter fun x => x.2.handleName?.isNone).filter fun x => x.1 == "internal/strconv.float64pow10") = [("internal/strconv.float64pow10", .slice (f64Rows.map fun x => .lit (.float .f64 x)) [])]) : FV W := by
  obtain ⟨p1,p2⟩:=ptab_of (listed_of h e2)
  obtain ⟨i1,i2⟩:=info_of (listed_of h e3)
  obtain ⟨o1,o2⟩:=opt_of (listed_of h e4)
  obtain ⟨f1,f2⟩:=f64_of (listed_of h e5)
  exact ⟨p1,tab_of h e1,i1,o1,f1,i2,o2,f2,p2⟩
end LM
end Go.Proofs.YtihbgghlnppkiaaGreatDoor
