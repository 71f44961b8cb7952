import Derived.Test.YtihbgghlnppkiaaGreatDoorR10
import Derived.Test.YtihbgghlnppkiaaGreatDoorR07
import Derived.LaidSub
import Derived.Lib.LaidTab
set_option linter.unusedVariables false
set_option linter.unusedSimpArgs false
set_option maxRecDepth 100000
set_option maxHeartbeats 16000000
namespace Go.Proofs.YtihbgghlnppkiaaGreatDoor
open Go.RowKit
namespace LM
theorem tab_of {l : List (String × DataW Unit)} {W : World} (h : laidMetH Tryz.prog l W)
    (he : ((l.filter fun x => x.2.handleName?.isNone).filter fun x => x.1 == "internal/strconv.uint64pow10") = [("internal/strconv.uint64pow10", Lib.tabData .u64 Lib.pow10Tab)]) : Lib.TabIs Tryz.prog W "internal/strconv.uint64pow10" .u64 Lib.pow10Tab := by
  have h1 := (laidMetH_iff.1 h).1.filter fun x => x.1 == "internal/strconv.uint64pow10"
  rw [he] at h1
  exact Lib.tabIs_of_head (g:=9) (t:=250) (e:=131) (n:=20) (by kernel_rfl) (by kernel_rfl) Tryz.underlying250 Tryz.underlying131 (by kernel_rfl) (by kernel_rfl) h1
theorem spot_none {w : World} {x : Addr} {v : Value} (h : w.cell? x = some v) : x = ⟨x.block,x.off,none⟩∧x.block < w.heap.size:=by
  obtain ⟨b,o,s⟩:=x
  unfold World.cell? at h
  dsimp only at h
  cases hb : w.heap[b]? with
  | none=>rw [hb] at h; cases h
  | some ob =>
    rw [hb] at h
    have hlt:=(Array.getElem?_eq_some_iff.1 hb).1
    cases s with
    | none=>exact ⟨rfl,hlt⟩
    | some k =>
      exfalso
      cases ob <;> first | (cases h; done) | simp at h
theorem open_row {w : World} {a : Option Addr} {len cap : Nat} {zs : List Int}
    (h : (a = none∧len = 0∧cap = 0∧zs = []) ∨ ∃ x,a = some x∧len ≤ cap∧cap ≤ maxLen∧zs.length = cap∧(∀ i,i < zs.length → w.cell? (x.add i) = some (.int .u32 (zs.getD i 0)))∧∀ n ∈ zs,(Lit.int .u32 n).wf = true) :
    ∃ xs : List Nat,xs.length = len∧Lm xs∧Rd w a xs∧len ≤ cap∧cap ≤ 9223372036854775807∧(a = none → len = 0∧cap = 0):=by
  rcases h with ⟨rfl,rfl,rfl,rfl⟩ | ⟨x,rfl,h1,h2,h3,h4,h5⟩
  · exact ⟨[],rfl,Lm.nil,Rd.nil,Nat.le_refl _,by omega,fun _=>⟨rfl,rfl⟩⟩
  · have hwf : ∀ n ∈ zs,0 ≤ n∧n < 4294967296:=fun n hn=>by
      have h:=h5 n hn
      simp [Lit.wf,IntKind.min,IntKind.max,IntKind.signed,IntKind.bits] at h
      omega
    have hget : ∀ i,i < zs.length → 0 ≤ zs.getD i 0∧zs.getD i 0 < 4294967296:=fun i hi=>by
      rw [List.getD_eq_getElem?_getD,List.getElem?_eq_getElem hi]
      exact hwf _ (List.getElem_mem hi)
    refine ⟨(zs.take len).map Int.toNat,by simp; omega,?_,?_,h1,by unfold maxLen at h2; omega,fun e=>by cases e⟩
    · intro y hy
      obtain ⟨z,hz,rfl⟩:=List.mem_map.1 hy
      have:=hwf z (List.mem_of_mem_take hz)
      omega
    · intro hl
      have hl' : 0 < len:=by simp at hl; omega
      have h0:=h4 0 (by omega)
      have hx0 : x.add 0 = x:=by simp [Addr.add]
      rw [hx0] at h0
      obtain ⟨e1,e2⟩:=spot_none h0
      refine ⟨x.block,x.off,by rw [← e1],e2,fun k hk=>?_⟩
      have hk' : k < len:=by simp at hk; omega
      have hc:=h4 k (by omega)
      have hxk : x.add k = ⟨x.block,x.off + k,none⟩:=by
        unfold Addr.add
        split
        · rename_i hk0; subst hk0; rw [Nat.add_zero]; exact e1
        · rfl
      rw [hxk] at hc
      rw [hc]
      have hg:=hget k (by omega)
      congr 2
      rw [List.getElem?_map,List.getElem?_take,if_pos hk',List.getElem?_eq_getElem (by omega)]
      rw [List.getD_eq_getElem?_getD,List.getElem?_eq_getElem (by omega)] at hg ⊢
      simp only [Option.map_some,Option.getD_some] at hg ⊢
      omega
end LM
namespace LM
theorem sentinel_of {l : List (String × DataW Unit)} {W : World} {nm : String} {d : DataW Unit} (h : laidMetH Tryz.prog l W)
    (he : ((l.filter fun x => x.2.handleName?.isNone).filter fun x => x.1 == "strconv.ErrSyntax") = [("strconv.ErrSyntax", .iface nm d)]) :
    SynCell W:=by
  have h1 := (laidMetH_iff.1 h).1.filter fun x => x.1 == "strconv.ErrSyntax"
  rw [he] at h1
  obtain ⟨ps,⟨g',t',cs,fuel,p,q,hg',ht',hvar,hd,_,_⟩,_⟩:=h1
  obtain rfl := Option.some.inj ((show Tryz.prog.globalNamed "strconv.ErrSyntax" = some 7 by kernel_rfl).symm.trans hg')
  obtain rfl:=Option.some.inj ((show (Tryz.prog.globals[7]?).map (·.type) = some 140 by kernel_rfl).symm.trans ht')
  obtain ⟨_,u,v,hcs,_,_⟩:=iface_of_trod Tryz.underlying140 hd
  have hc : W.cell? ⟨7,0,none⟩ = some (.iface u v):=(World.var?_cell (by kernel_rfl) hvar 0).trans (by rw [← Array.getElem?_toList,hcs]; rfl)
  exact ⟨_,hc,(spot_none hc).2,.inr ⟨_,_,rfl⟩⟩
end LM
end Go.Proofs.YtihbgghlnppkiaaGreatDoor
