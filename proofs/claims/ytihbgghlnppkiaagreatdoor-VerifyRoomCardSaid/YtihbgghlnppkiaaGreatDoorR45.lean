import Derived.Test.YtihbgghlnppkiaaGreatDoorR44
import Derived.Deep.AppendLies
set_option linter.unusedVariables false
set_option linter.unusedSimpArgs false
set_option maxRecDepth 100000
set_option maxHeartbeats 16000000
namespace Go.Proofs.YtihbgghlnppkiaaGreatDoor
open Go Go.RowKit
namespace LM
theorem ins_infoV : (Tryz.prog.info? 41).map (fun i=>(i.zero,i.size,i.bytes)) = some (some (.agg #[.int .i64 0,.int .i64 0,.int .i64 0]),3,24):=by kernel_rfl
theorem prc_infoV : (Tryz.prog.info? 35).map (fun i=>(i.zero,i.size,i.bytes)) = some (some (.agg #[.string ⟨#[]⟩,.int .i64 0,.bool false,.int .i64 0,.int .i64 0,.int .i64 0,.slice none 0 0]),7,80):=by kernel_rfl
theorem own_empty (W : World) (T : TypeId) (k : Nat) : (W.alloc (.cells #[] T)).ownsRow W.heap.size T k (.slice (some ⟨W.heap.size,0,none⟩) 0 0) 0 [] :=
  ⟨by simp,.inr ⟨W.heap.size,0,#[],rfl,Nat.le_refl _,Array.getElem?_push_size,Nat.le_refl _,Nat.zero_le _,by simp,by simp⟩⟩
theorem far_own {w : World} {base size n g cap : Nat} {e : TypeId} {xs : List Value} (h : w.ownsRow base e size (.slice (some ⟨g,0,none⟩) n cap) n xs) : base ≤ g:=by
  obtain ⟨-,⟨h,-⟩ | ⟨g',cap',cur,h,h2,-⟩⟩:=h
  · cases h
  · injection h with h
    injection h with h
    injection h with h
    omega
theorem grown_keep {W W' : World} {row : Option Nat} (h : W.grownBy W' row) {B : Nat} (hB : B ≤ W.heap.size) (hr : ∀ g,row = some g → B ≤ g) : Below B W W' :=
  ⟨h.os,h.tape,h.output,h.size,fun k hk=>h.block k (by omega) fun e=>by have:=hr k e.symm; omega⟩
theorem ins_of_own {w : World} {base n g cap : Nat} {e : TypeId} {l : List Ins} (h : w.ownsRow base e 3 (.slice (some ⟨g,0,none⟩) n cap) n (insC l)) (hn : 0 < n) : InsAt w g 0 l∧n ≤ cap∧cap ≤ 9223372036854775807:=by
  obtain ⟨g',cap',cur,e1,h2,h3,h4,h5,h6,h7⟩:=own_formV h hn
  injection e1 with e1 e2 e3
  injection e1 with e1
  injection e1 with e1
  subst e1 e3
  exact ⟨ins_of_row h3 h7,h4,by unfold maxLen at h5; omega⟩
theorem prc_of_own {w : World} {base n g cap : Nat} {e : TypeId} {l : List Prh} (h : w.ownsRow base e 7 (.slice (some ⟨g,0,none⟩) n cap) n (prcC l)) (hn : 0 < n) : PrcAt w g 0 l∧n ≤ cap∧cap ≤ 9223372036854775807:=by
  obtain ⟨g',cap',cur,e1,h2,h3,h4,h5,h6,h7⟩:=own_formV h hn
  injection e1 with e1 e2 e3
  injection e1 with e1
  injection e1 with e1
  subst e1 e3
  exact ⟨prc_of_row h3 h7,h4,by unfold maxLen at h5; omega⟩
theorem InsAt.move {w w' : World} {b off : Nat} {l : List Ins} (h : InsAt w b off l) (hb : w'.heap[b]? = w.heap[b]?) (hl : b < w'.heap.size) : InsAt w' b off l:=fun j x hx=>by
  obtain ⟨-,c0,c1,c2⟩:=h j x hx
  exact ⟨hl,(World.cell?_of_block (a:=⟨b,_,none⟩) hb).trans c0,(World.cell?_of_block (a:=⟨b,_,none⟩) hb).trans c1,(World.cell?_of_block (a:=⟨b,_,none⟩) hb).trans c2⟩
theorem room_wb {Wb wa wb : World} {T : TypeId} {oa ob : Obj} {ga ca gb cb n m P : Nat} {xs ys : List Value} (hP : P < Wb.heap.size) (owna : wa.ownsRow Wb.heap.size T 3 (.slice (some ⟨ga,0,none⟩) n ca) n xs) (growa : (Wb.alloc oa).grownBy wa (Value.slice (some ⟨Wb.heap.size,0,none⟩) 0 0).ownBlock)
    (whera : (Value.slice (some ⟨Wb.heap.size,0,none⟩) 0 0).ownBlock = some ga ∨ ga = Wb.heap.size + 1) (ownb : wb.ownsRow Wb.heap.size T 3 (.slice (some ⟨gb,0,none⟩) m cb) m ys) (growb : (wa.alloc ob).grownBy wb (Value.slice (some ⟨ga,0,none⟩) n ca).ownBlock) : Below Wb.heap.size Wb wb:=by
  have h1 : Below Wb.heap.size Wb (Wb.alloc oa):=(Below.refl _ _).alloc (Nat.le_refl _) _
  have h2 : Below Wb.heap.size (Wb.alloc oa) wa:=grown_keep growa (by simp) fun g hg=>by
    obtain rfl : Wb.heap.size = g:=Option.some.inj hg
    exact Nat.le_refl _
  have h3 : Below Wb.heap.size wa (wa.alloc ob):=(Below.refl _ _).alloc (by have:=growa.size; simp at this; omega) _
  have h4 : Below Wb.heap.size (wa.alloc ob) wb:=grown_keep growb (by have:=growa.size; simp at this ⊢; omega) fun g hg=>by
    obtain rfl : ga = g:=Option.some.inj hg
    exact far_own owna
  exact ((h1.trans h2).trans h3).trans h4
theorem built_next {D : Nat} {m : Int} {c : Cod} {Wd wd W' : World} {dv : Value} {ps' : List Prh} {p p' : Prh} {o : Obj} {gd capd gb : Nat} (h : Built D m c Wd dv ps')
    (own : wd.ownsRow (D + 1) 35 7 (.slice (some ⟨gd,0,none⟩) (ps'.length + 1) capd) (ps'.length + 1) (prcC ps' ++ prV7 p')) (grow : (Wd.alloc o).grownBy wd dv.ownBlock) (wher : dv.ownBlock = some gd ∨ gd = Wd.heap.size + 1)
    (hp : c.ps[ps'.length]? = some p) (hm : Mod m p p') (hok : p'.Ok) (hB : p'.B = some ⟨gb,0,none⟩) (hia : InsAt Wd gb 0 p'.code) (hgb : D < gb∧gb < Wd.heap.size) (hne : some gb ≠ dv.ownBlock)
    (hW' : wd.setCell ⟨D,0,none⟩ (.slice (some ⟨gd,0,none⟩) (ps'.length + 1) capd) = W') : Built D m c W' (.slice (some ⟨gd,0,none⟩) (ps'.length + 1) capd) (ps' ++ [p'])∧Below D Wd W':=by
  have hs : Wd.heap.size < wd.heap.size:=by have:=grow.size; simp at this; omega
  have hk : ∀ q,q < Wd.heap.size → some q ≠ dv.ownBlock → wd.heap[q]? = Wd.heap[q]?:=fun q hq hn=>(grow.block q (by simp; omega) hn).trans (Below.heap_alloc Wd _ q hq)
  have hDl:=hlt_of h.blk
  have hDo : some D ≠ dv.ownBlock:=fun e=>by have:=(h.own.lt D e.symm).1; omega
  have hz : W'.heap.size = wd.heap.size:=by rw [← hW',World.size_setCell]
  have hf : ∀ q,q ≠ D → W'.heap[q]? = wd.heap[q]?:=fun q hq=>by rw [← hW']; exact heap_setCell_other _ (⟨D,0,none⟩ : Addr) _ _ hq
  have hgd : D + 1 ≤ gd:=far_own own
  have hgdl : gd < wd.heap.size:=(own.lt gd rfl).2
  have hle : ∀ b,b < Wd.heap.size → some b ≠ dv.ownBlock → some b ≠ (Value.slice (some ⟨gd,0,none⟩) (ps'.length + 1) capd).ownBlock:=fun b hb hn e=>by
    have e2 : b = gd:=by injection e
    subst e2
    rcases wher with h1 | h1
    · exact hn h1.symm
    · omega
  have hmv : ∀ (l : List Ins) b,InsAt Wd b 0 l → D < b → b < Wd.heap.size → some b ≠ dv.ownBlock → InsAt W' b 0 l:=fun l b hi h1 h2 h3 =>
    hi.move ((hf b (by omega)).trans (hk b h2 h3)) (by omega)
  refine ⟨⟨?_,?_,?_,?_⟩,?_⟩
  · obtain ⟨k1,k2⟩:=own
    refine ⟨by rw [prcC_app,List.length_append]; simpa [prcC] using k1,.inr ?_⟩
    rcases k2 with ⟨k2,-⟩ | ⟨g,cap,cur,k2,k3,k4,k5,k6,k7,k8⟩
    · cases k2
    · have e : g = gd:=by injection k2 with e1; injection e1 with e1; injection e1 with e1; exact e1.symm
      subst e
      exact ⟨g,cap,cur,by rw [List.length_append]; exact k2,k3,(hf g (by omega)).trans k4,by rw [List.length_append]; exact k5,k6,k7,by rw [List.length_append,prcC_app]; simpa [prcC] using k8⟩
  · intro i q hq
    rcases Nat.lt_or_ge i ps'.length with h1 | h1
    · rw [List.getElem?_append_left h1] at hq
      exact h.mod i q hq
    · rw [List.getElem?_append_right h1] at hq
      have h2 : i = ps'.length:=by
        have:=(List.getElem?_eq_some_iff.1 hq).1
        simp at this
        omega
      subst h2
      simp at hq
      subst hq
      exact ⟨p,hp,hm,hok⟩
  · intro q hq
    rcases List.mem_append.1 hq with h1 | h1
    · obtain ⟨b,k1,k2,k3,k4,k5⟩:=h.pv q h1
      exact ⟨b,k1,hmv _ b k2 k3 k4 k5,k3,by omega,hle b k4 k5⟩
    · simp at h1
      subst h1
      exact ⟨gb,hB,hmv _ gb hia hgb.1 hgb.2 hne,hgb.1,by omega,hle gb hgb.2 hne⟩
  · rw [← hW']
    exact Lib.heap_setCell_same (i:=0) ((hk D hDl hDo).trans h.blk) _
  · refine ⟨?_,?_,?_,by omega,fun q hq=>(hf q (by omega)).trans (hk q (by omega) fun e=>by have:=(h.own.lt q e.symm).1; omega)⟩
    · rw [← hW']; exact grow.os
    · rw [← hW']; exact grow.tape
    · rw [← hW']; exact grow.output
structure Tit (wr wt : World) (c : Cod) (N gt capt : Nat) : Prop where
  own : wt.ownsRow wr.heap.size 35 7 (.slice (some ⟨gt,0,none⟩) N capt) N (prcC c.ps)
  bel : Below wr.heap.size wr wt
theorem tit_of {wr X wt : World} {c : Cod} {N gt capt g0 : Nat} (hX : Below wr.heap.size wr X) (hg0 : wr.heap.size ≤ g0) (h1 : wt.ownsRow wr.heap.size 35 7 (.slice (some ⟨gt,0,none⟩) (0 + N) capt) (0 + N) ([] ++ prcC c.ps)) (h2 : X.grownBy wt (Value.slice (some ⟨g0,0,none⟩) 0 0).ownBlock) : Tit wr wt c N gt capt:=by
  rw [Nat.zero_add,List.nil_append] at h1
  exact ⟨h1,hX.trans (grown_keep h2 hX.size fun g hg=>by
    obtain rfl : g0 = g:=Option.some.inj hg
    exact hg0)⟩
structure Tia (wr WT : World) (c : Cod) (N gt capt T : Nat) : Prop where
  own : WT.ownsRow wr.heap.size 35 7 (.slice (some ⟨gt,0,none⟩) N capt) N (prcC c.ps)
  bel : Below wr.heap.size wr WT
  blk : WT.heap[T]? = some (.cells #[.slice (some ⟨gt,0,none⟩) N capt,.slice c.CB c.kids.len c.cc,.slice c.GB c.gs.length c.gc] 26 (0,0))
  low : wr.heap.size ≤ T
  ne : T ≠ gt
theorem tia_new {wr wt WT : World} {c : Cod} {N gt capt : Nat} (h : Tit wr wt c N gt capt) (hW : wt.alloc (.cells #[.slice (some ⟨gt,0,none⟩) N capt,.slice c.CB c.kids.len c.cc,.slice c.GB c.gs.length c.gc] 26) = WT) : Tia wr WT c N gt capt wt.heap.size:=by
  subst hW
  exact ⟨h.own.alloc _,h.bel.alloc h.bel.size _,Array.getElem?_push_size,h.bel.size,by have:=(h.own.lt gt rfl).2; omega⟩
theorem tia_set {wr wt WT : World} {c : Cod} {N gt capt T : Nat} (h : Tit wr wt c N gt capt) (hT : wr.heap.size ≤ T) (hn : T ≠ gt) (hz : wt.heap[T]? = some (.cells #[.slice none 0 0,.slice none 0 0,.slice none 0 0] 26 (0,0)))
    (hW : ((wt.setCell ⟨T,0,none⟩ (.slice (some ⟨gt,0,none⟩) N capt)).setCell ⟨T,1,none⟩ (.slice c.CB c.kids.len c.cc)).setCell ⟨T,2,none⟩ (.slice c.GB c.gs.length c.gc) = WT) : Tia wr WT c N gt capt T:=by
  have hf : ∀ q,q ≠ T → WT.heap[q]? = wt.heap[q]?:=fun q hq=>by
    rw [← hW,heap_setCell_other _ (⟨T,2,none⟩ : Addr) _ _ hq,heap_setCell_other _ (⟨T,1,none⟩ : Addr) _ _ hq,heap_setCell_other _ (⟨T,0,none⟩ : Addr) _ _ hq]
  refine ⟨?_,?_,?_,hT,hn⟩
  · obtain ⟨k1,k2⟩:=h.own
    refine ⟨k1,.inr ?_⟩
    rcases k2 with ⟨k2,-⟩ | ⟨g,cap,cur,k2,k3,k4,k5⟩
    · cases k2
    · have e : g = gt:=by injection k2 with e1; injection e1 with e1; injection e1 with e1; exact e1.symm
      subst e
      exact ⟨g,cap,cur,k2,k3,(hf g (fun e=>hn e.symm)).trans k4,k5⟩
  · rw [← hW]
    exact ((h.bel.setCell (p:=⟨T,0,none⟩) hT _).setCell (p:=⟨T,1,none⟩) hT _).setCell (p:=⟨T,2,none⟩) hT _
  · rw [← hW]
    exact Lib.heap_setCell_same (i:=2) (Lib.heap_setCell_same (i:=1) (Lib.heap_setCell_same (i:=0) hz _) _) _
theorem zt_keep {X wt : World} {T : Nat} {o : Obj} {row : Option Nat} (hl : T < X.heap.size) (h : X.heap[T]? = some o) (hg : X.grownBy wt row) (hn : some T ≠ row) : wt.heap[T]? = some o:=(hg.block T hl hn).trans h
theorem alloc_at2 (w : World) (a b : Obj) : ((w.alloc a).alloc b).heap[w.heap.size + 1]? = some b:=by
  have h : ((w.alloc a).alloc b).heap[(w.alloc a).heap.size]? = some b:=Array.getElem?_push_size
  rwa [show (w.alloc a).heap.size = w.heap.size + 1 by simp] at h
theorem alloc_at3 (w : World) (a b : Obj) : ((w.alloc a).alloc b).heap[w.heap.size]? = some a:=by
  rw [Below.heap_alloc (w.alloc a) b w.heap.size (by simp)]
  exact Array.getElem?_push_size
theorem whn2 {gt : Nat} {w : World} {a b : Obj} (h : (Value.slice (some ⟨w.heap.size,0,none⟩) 0 0).ownBlock = some gt ∨ gt = ((w.alloc a).alloc b).drew.heap.size) : w.heap.size + 1 ≠ gt:=by
  rcases h with h | h
  · have : w.heap.size = gt:=Option.some.inj h
    omega
  · have : ((w.alloc a).alloc b).drew.heap.size = w.heap.size + 2:=by show ((w.alloc a).alloc b).heap.size = _; simp
    omega
theorem whn3 {gt : Nat} {w : World} {a b : Obj} (h : (Value.slice (some ⟨w.heap.size + 1,0,none⟩) 0 0).ownBlock = some gt ∨ gt = ((w.alloc a).alloc b).drew.heap.size) : w.heap.size ≠ gt:=by
  rcases h with h | h
  · have : w.heap.size + 1 = gt:=Option.some.inj h
    omega
  · have : ((w.alloc a).alloc b).drew.heap.size = w.heap.size + 2:=by show ((w.alloc a).alloc b).heap.size = _; simp
    omega
end LM
end Go.Proofs.YtihbgghlnppkiaaGreatDoor
