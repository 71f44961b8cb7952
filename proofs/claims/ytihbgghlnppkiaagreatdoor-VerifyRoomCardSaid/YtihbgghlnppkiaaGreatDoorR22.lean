import Derived.Test.YtihbgghlnppkiaaGreatDoorR20
import Derived.Deep.RegionLawGrows
import Derived.Lib.BufferMore
import Derived.Deep.LoopGhost
import Derived.Deep.OwnRows
import Derived.Laws.CopyOwn
set_option linter.unusedVariables false
set_option linter.unusedSimpArgs false
set_option maxRecDepth 100000
set_option maxHeartbeats 16000000
namespace Go.Proofs.YtihbgghlnppkiaaGreatDoor
open Go Go.RowKit
namespace LM
structure Mv (w w' : World) (L : List Nat) : Prop where
  os : w'.os = w.os
  tape : w'.tape = w.tape
  output : w'.output = w.output
  size : w.heap.size ≤ w'.heap.size
  keep : ∀ k,k < w.heap.size → k ∉ L → w'.heap[k]? = w.heap[k]?
theorem Mv.refl (w : World) (L : List Nat) : Mv w w L:=⟨rfl,rfl,rfl,Nat.le_refl _,fun _ _ _=>rfl⟩
theorem Mv.trans {w w1 w2 : World} {L : List Nat} (h : Mv w w1 L) (h' : Mv w1 w2 L) : Mv w w2 L :=
  ⟨h'.os.trans h.os,h'.tape.trans h.tape,h'.output.trans h.output,Nat.le_trans h.size h'.size,fun k hk hn=>(h'.keep k (Nat.lt_of_lt_of_le hk h.size) hn).trans (h.keep k hk hn)⟩
theorem Mv.mono {w w' : World} {L L' : List Nat} (h : Mv w w' L) (hs : ∀ k,k < w.heap.size → k ∈ L → k ∈ L') : Mv w w' L':=⟨h.os,h.tape,h.output,h.size,fun k hk hn=>h.keep k hk fun e=>hn (hs k hk e)⟩
theorem Mv.of_below {w w' : World} (h : Below w.heap.size w w') (L : List Nat) : Mv w w' L:=⟨h.os,h.tape,h.output,h.size,fun k hk _=>h.block k hk⟩
theorem Mv.below {w w' : World} {L : List Nat} {B : Nat} (h : Mv w w' L) (hB : B ≤ w.heap.size) (hL : ∀ k ∈ L,B ≤ k) : Below B w w':=⟨h.os,h.tape,h.output,h.size,fun k hk=>h.keep k (Nat.lt_of_lt_of_le hk hB) fun e=>absurd (hL k e) (by omega)⟩
abbrev ivs (l : List Int) : List Value:=l.map fun x=>.int .i64 x
def blkL (v : Value) : List Nat:=match v.ownBlock with | some b=>[b] | none=>[]
structure HQ (w : World) (B W0 : Nat) (cs : Array Value) (T : TypeId) (lv : Value) (l : List Int) : Prop where
  blk : w.heap[W0]? = some (.cells cs T (0,0))
  at5 : cs[5]? = some lv
  own : w.ownsRow B 3 1 lv l.length (ivs l)
  ne : lv.ownBlock ≠ some W0
theorem HQ.lt {w : World} {B W0 : Nat} {cs : Array Value} {T : TypeId} {lv : Value} {l : List Int} (h : HQ w B W0 cs T lv l) : W0 < w.heap.size:=by
  rcases Nat.lt_or_ge W0 w.heap.size with h2 | h2
  · exact h2
  · have:=h.blk; rw [Array.getElem?_eq_none h2] at this; cases this
theorem int_infoB : (Tryz.prog.info? 3).map (fun i=>(i.zero,i.size,i.bytes)) = some (some (.int .i64 0),1,8):=by kernel_rfl
theorem info_partsV {P : Program} {t : TypeId} {z : Value} {s b : Nat} (h : (P.info? t).map (fun i=>(i.zero,i.size,i.bytes)) = some (some z,s,b)) : ∃ i,P.info? t = some i∧i.zero = some z∧i.size = s∧i.bytes = b:=by
  obtain ⟨i,hi,he⟩:=Option.map_eq_some_iff.1 h
  simp only [Prod.mk.injEq] at he
  exact ⟨i,hi,he.1,he.2.1,he.2.2⟩
theorem hlt_of {W : World} {g : Nat} {o : Obj} (h : W.heap[g]? = some o) : g < W.heap.size:=by
  rcases Nat.lt_or_ge g W.heap.size with h2 | h2
  · exact h2
  · rw [Array.getElem?_eq_none h2] at h; cases h
theorem step_append_v {P : Program} {ops : Array Oper} {o : Oper} {a : Act} {w : World} {K : Act → World → Prop} {Q : Exit → Act → World → Prop} {E : Prop}
    (hg : o.guard = none) (s x : Operand) (t : TypeId) (hop : o.op = Op.call { callee:=Callee.builtin Builtin.append,args:=#[s,x],argTypes:=#[t,t] })
    (base : Nat) (e : TypeId) (i : TypeInfo) (z : Value) (size bytes : Nat) (h1 : P.underlying t = some (.slice e)) (h2 : P.info? e = some i) (h3 : i.zero = some z) (h4 : i.size = size) (h5 : i.bytes = bytes) (h6 : z.cells.size = size) (h7 : 0 < size)
    (v : Value) (n : Nat) (xs : List Value) (hs : a.eval s = v) (hown : w.ownsRow base e size v n xs)
    (ad : Addr) (m c : Nat) (news : List Value) (hx : a.eval x = .slice (some ad) m c) (hn : news.length = m * size) (hc : ∀ j u,news[j]? = some u → w.cell? (ad.add j) = some u) (h1c : ∀ u ∈ news,u.oneCell' = true)
    (b1 : n + m ≤ maxLen) (b2 : (n + m) * bytes ≤ 140737488355328) (hbase : base ≤ w.heap.size)
    (hK : ∀ v' w',w'.ownsRow base e size v' (n + m) (xs ++ news) → w.grownBy w' v.ownBlock → (v'.ownBlock = v.ownBlock ∨ v'.ownBlock = some w.heap.size) → K (a.put o.dst v') w') :
    if Region.wanted o (yielded ops a.tmps) = true then Oper.wp P o a w K Q else E:=by
  have hw : Region.wanted o (yielded ops a.tmps) = true:=by simp [Region.wanted,hg]
  rw [if_pos hw]
  obtain ⟨v',w',hrun,r1,r2,_,r3⟩:=run_append_own_at (P:=P) w base t o.type e i z size bytes h1 h2 h3 h4 h5 h6 h7 v n xs hown ad m c news hn hc h1c b1 b2 hbase
  unfold Oper.wp
  simp [execOp,hop,resolve,invoke,builtin,hs,hx,hrun,Result.andThen]
  exact hK v' w' r1 r2 r3
theorem own_formV {w : World} {base size n : Nat} {e : TypeId} {v : Value} {xs : List Value} (h : w.ownsRow base e size v n xs) (hn : 0 < n) : ∃ g cap cur,v = .slice (some ⟨g,0,none⟩) n cap∧base ≤ g∧w.heap[g]? = some (.cells cur e (0,0))∧n ≤ cap∧cap ≤ maxLen∧cur.size = cap * size∧cur.toList.take xs.length = xs:=by
  obtain ⟨h1,⟨rfl,rfl⟩ | ⟨g,cap,cur,rfl,h2,h3,h4,h5,h6,h7⟩⟩:=h
  · omega
  · exact ⟨g,cap,cur,rfl,h2,h3,h4,h5,h6,by rw [h1]; exact h7⟩
theorem blk_mem {lv : Value} {k : Nat} (h : some k = lv.ownBlock) : k ∈ blkL lv:=by
  unfold blkL
  rw [← h]
  simp
theorem push_fin {w w' WF : World} {B W0 g cap : Nat} {cs : Array Value} {T : TypeId} {lv : Value} {l : List Int} {v : Int} (H : HQ w B W0 cs T lv l) (hWF : w'.setCell ⟨W0,5,none⟩ (.slice (some ⟨g,0,none⟩) (l.length + 1) cap) = WF)
    (hown : w'.ownsRow B 3 1 (.slice (some ⟨g,0,none⟩) (l.length + 1) cap) (l.length + 1) (ivs l ++ [.int .i64 v])) (hos : w'.os = w.os) (htp : w'.tape = w.tape) (hou : w'.output = w.output) (hsz : w.heap.size ≤ w'.heap.size)
    (hblk : some g = lv.ownBlock ∨ w.heap.size ≤ g) (hbk : ∀ k,k < w.heap.size → some k ≠ lv.ownBlock → w'.heap[k]? = w.heap[k]?) :
    HQ WF B W0 (cs.setIfInBounds 5 (.slice (some ⟨g,0,none⟩) (l.length + 1) cap)) T (.slice (some ⟨g,0,none⟩) (l.length + 1) cap) (l ++ [v])∧Mv w WF (W0 :: blkL lv)∧(some g = lv.ownBlock ∨ ∃ b,some g = some b∧w.heap.size ≤ b):=by
  have hlt:=H.lt
  have hg : g ≠ W0:=by
    rintro rfl
    rcases hblk with h | h
    · exact H.ne h.symm
    · omega
  have hB : Below 0 w' WF:=by rw [← hWF]; exact (Below.refl 0 w').setCell (Nat.zero_le _) _
  have hs : WF.heap.size = w'.heap.size:=by rw [← hWF,World.size_setCell]
  have hk : ∀ q,q ≠ W0 → WF.heap[q]? = w'.heap[q]?:=fun q hq=>by rw [← hWF]; exact heap_setCell_other _ (⟨W0,5,none⟩ : Addr) _ _ hq
  have hb : WF.heap[W0]? = some (.cells (cs.setIfInBounds 5 (.slice (some ⟨g,0,none⟩) (l.length + 1) cap)) T (0,0)):=by
    rw [← hWF]
    exact Go.Lib.heap_setCell_same (i:=5) ((hbk _ hlt fun e=>H.ne e.symm).trans H.blk) _
  have hc5 : 5 < cs.size:=(Array.getElem?_eq_some_iff.1 H.at5).1
  refine ⟨⟨hb,by simp [hc5],?_,by simp [Value.ownBlock]; exact hg⟩,⟨hB.os.trans hos,hB.tape.trans htp,hB.output.trans hou,by omega,fun k hkl hn=>?_⟩,?_⟩
  · obtain ⟨h1,h2⟩:=hown
    refine ⟨by simp,.inr ?_⟩
    rcases h2 with ⟨h2,-⟩ | ⟨g',cap',cur,h2,h3,h4,h5,h6,h7,h8⟩
    · cases h2
    · simp only [Value.slice.injEq,Option.some.injEq,Addr.mk.injEq,and_true,true_and] at h2
      obtain ⟨rfl,rfl⟩:=h2
      exact ⟨g,cap,cur,by simp,h3,(hk g hg).trans h4,by simp; omega,h6,h7,by simpa using h8⟩
  · simp only [List.mem_cons,not_or] at hn
    exact (hk k hn.1).trans (hbk k hkl fun e=>hn.2 (blk_mem e))
  · rcases hblk with h | h
    · exact .inl h
    · exact .inr ⟨g,rfl,h⟩
theorem ta_int (v : Int) (xt : TypeId) (w : World) : (Instr.typeAssert (.iface 3 (.int .i64 v)) xt 3 false).run Tryz.prog w = .ok (.int .i64 v) w:=by
  unfold Instr.typeAssert
  simp [go_sem]
theorem vpush_any (B W0 : Nat) (cs : Array Value) (T : TypeId) (lv : Value) (l : List Int) (v : Int) (w : World) (h : HQ w B W0 cs T lv l) (hl : l.length ≤ 1000000) (hB : B ≤ w.heap.size) :
    Calls Tryz.prog 269 #[.pointer (some ⟨W0,5,none⟩),.iface 3 (.int .i64 v)] w fun e w'=>(∃ u,e = .returned u)∧∃ lv',HQ w' B W0 (cs.setIfInBounds 5 lv') T lv' (l ++ [v])∧Mv w w' (W0 :: blkL lv)∧(lv'.ownBlock = lv.ownBlock ∨ ∃ b,lv'.ownBlock = some b∧w.heap.size ≤ b):=by
  obtain ⟨i0,hinf,hz0,hz1,hz2⟩:=info_partsV int_infoB
  have H:=Lib.hid h
  have HB:=Lib.hid hB
  have hc5 : 5 < cs.size:=(Array.getElem?_eq_some_iff.1 h.at5).1
  have l5 : w.cell? ⟨W0,5,none⟩ = some lv:=by rw [ob_cell h.blk]; exact h.at5
  have f5:=ob_free h.blk 5 hc5
  have l5a : (w.alloc (.cells #[.int .i64 v] 3)).cell? ⟨W0,5,none⟩ = some lv:=by rw [ob_cell ((Below.heap_alloc w _ _ h.lt).trans h.blk)]; exact h.at5
  have hta:=fun xt W=>ta_int v xt W
  have HL:=Lib.hid hl
  have HC5:=Lib.hid hc5
  clear h hB hl hc5
  go_enter Tryz.func269,Tryz.ntmps269
  go_wp2_with (fail)
  go_region_law (refine step_append_v rfl (.tmp 8) (.tmp 11) 74 rfl B 3 i0 _ 1 8 Tryz.underlying74 hinf hz0 hz1 hz2 rfl (by decide) lv l.length (ivs l) (by first | rfl | simp [Act.eval,Act.put]) (H.out.own.alloc _) ⟨w.heap.size,0,none⟩ 1 1 [.int .i64 v] (by first | rfl | simp [Act.eval,Act.put]) rfl (fun j u hj=>cell_one_new w (.int .i64 v) 3 j u hj) (by simp [Value.oneCell']) (by unfold maxLen; have:=HL.out; omega) (by have:=HL.out; omega) (by have:=HB.out; simp; omega) ?_; intro lv' w' hown hgrow hblk; obtain ⟨g,cap,cur,rfl,q1,q2,q3,q4,q5,q6⟩:=own_formV hown (by omega); clear q1 q2 q3 q4 q5 q6; have hbk : ∀ k,k < w.heap.size → some k ≠ lv.ownBlock → w'.heap[k]? = w.heap[k]?:=fun k hk hn=>(hgrow.block k (by simp; omega) hn).trans (Below.heap_alloc w _ k hk); have u5 : w'.cell? ⟨W0,5,none⟩ = some lv:=(by rw [ob_cell ((hbk _ H.out.lt fun e=>H.out.ne e.symm).trans H.out.blk)]; exact H.out.at5); have uf5:=ob_free ((hbk _ H.out.lt fun e=>H.out.ne e.symm).trans H.out.blk) 5 HC5.out; have KB:=Lib.hid (And.intro hown (And.intro hgrow (And.intro hblk hbk))); clear hown hgrow hblk hbk)
  all_goals
    obtain ⟨hown,hgrow,hblk,hbk⟩:=KB.out
    obtain ⟨WF,hWF⟩ : ∃ WF,w'.setCell ⟨W0,5,none⟩ (.slice (some ⟨g,0,none⟩) (l.length + 1) cap) = WF:=⟨_,rfl⟩
    have FF:=Lib.hid (push_fin H.out hWF hown hgrow.os hgrow.tape hgrow.output (by have:=hgrow.size; simp at this; omega) (by
      rcases hblk with h | h
      · exact .inl h
      · simp [Value.ownBlock] at h
        exact .inr (by omega)) hbk)
    rw [hWF]
    clear hown hgrow hblk hbk hWF u5 uf5 l5 f5 l5a
    go_end0
    exact ⟨⟨_,rfl⟩,_,FF.out⟩
end LM
namespace LM
theorem HQ.heap {w w' : World} {B W0 : Nat} {cs : Array Value} {T : TypeId} {lv : Value} {l : List Int} (h : HQ w B W0 cs T lv l) (e : w'.heap = w.heap) : HQ w' B W0 cs T lv l:=by
  obtain ⟨h1,h2,h3,h4⟩:=h
  refine ⟨by rw [e]; exact h1,h2,?_,h4⟩
  unfold World.ownsRow at h3 ⊢
  rw [e]
  exact h3
theorem HQ.form {w : World} {B W0 : Nat} {cs : Array Value} {T : TypeId} {lv : Value} {l : List Int} (h : HQ w B W0 cs T lv l) (hl : 0 < l.length) : ∃ g cap cur,lv = .slice (some ⟨g,0,none⟩) l.length cap∧B ≤ g∧g ≠ W0∧w.heap[g]? = some (.cells cur 3 (0,0))∧l.length ≤ cap∧cap ≤ 9223372036854775807∧cur.size = cap ∧
    ∀ (j : Nat) x,l[j]? = some x → w.cell? ⟨g,j,none⟩ = some (.int .i64 x)∧w.frozen? ⟨g,j,none⟩ = false:=by
  obtain ⟨g,cap,cur,rfl,q1,q2,q3,q4,q5,q6⟩:=own_formV h.own hl
  refine ⟨g,cap,cur,rfl,q1,fun e=>h.ne (by rw [e]; rfl),q2,q3,by unfold maxLen at q4; exact Nat.le_trans q4 (by decide),by omega,fun j x hj=>?_⟩
  have hjl:=(List.getElem?_eq_some_iff.1 hj).1
  have h1 : cur[j]? = some (.int .i64 x):=by
    have h2 : (ivs l)[j]? = some (.int .i64 x):=by simp [hj]
    rw [← q6,List.getElem?_take] at h2
    split at h2
    · simpa using h2
    · cases h2
  exact ⟨by rw [ob_cell q2]; exact h1,ob_free q2 j (Array.getElem?_eq_some_iff.1 h1).1⟩
theorem HQ.swap {w : World} {B W0 g cap i j : Nat} {cs : Array Value} {T : TypeId} {l : List Int} {x y : Int} (h : HQ w B W0 cs T (.slice (some ⟨g,0,none⟩) l.length cap) l) (hi : l[i]? = some x) (hj : l[j]? = some y) :
    HQ ((w.setCell ⟨g,i,none⟩ (.int .i64 y)).setCell ⟨g,j,none⟩ (.int .i64 x)) B W0 cs T (.slice (some ⟨g,0,none⟩) l.length cap) ((l.set i y).set j x)∧Mv w ((w.setCell ⟨g,i,none⟩ (.int .i64 y)).setCell ⟨g,j,none⟩ (.int .i64 x)) [g]∧((l.set i y).set j x).Perm l:=by
  have hil:=(List.getElem?_eq_some_iff.1 hi).1
  have hjl:=(List.getElem?_eq_some_iff.1 hj).1
  obtain ⟨h1,h2,⟨h3,h4⟩,h5⟩:=h
  rcases h4 with ⟨h4,-⟩ | ⟨g',cap',cur,h4,q1,q2,q3,q4,q5,q6⟩
  · cases h4
  simp only [Value.slice.injEq,Option.some.injEq,Addr.mk.injEq,and_true,true_and] at h4
  obtain ⟨rfl,rfl⟩:=h4
  have hg : g ≠ W0:=fun e=>h5 (by rw [e]; rfl)
  have b1:=Go.Lib.heap_setCell_same (i:=i) q2 (.int .i64 y)
  have b2:=Go.Lib.heap_setCell_same (i:=j) b1 (.int .i64 x)
  obtain ⟨W1,hW1⟩ : ∃ W1,w.setCell ⟨g,i,none⟩ (.int .i64 y) = W1:=⟨_,rfl⟩
  obtain ⟨W2,hW2⟩ : ∃ W2,W1.setCell ⟨g,j,none⟩ (.int .i64 x) = W2:=⟨_,rfl⟩
  rw [hW1,hW2] at b2 ⊢
  have k1 : ∀ q,q ≠ g → W2.heap[q]? = w.heap[q]?:=fun q hq=>by
    rw [← hW2,heap_setCell_other _ (⟨g,j,none⟩ : Addr) _ _ hq,← hW1,heap_setCell_other _ (⟨g,i,none⟩ : Addr) _ _ hq]
  have hB : Below 0 w W2:=by rw [← hW2,← hW1]; exact ((Below.refl 0 w).setCell (Nat.zero_le _) _).setCell (Nat.zero_le _) _
  have hp : ((l.set i y).set j x).Perm l:=by
    have:=List.set_set_perm hil hjl
    rw [(List.getElem?_eq_some_iff.1 hi).2,(List.getElem?_eq_some_iff.1 hj).2] at this
    exact this
  refine ⟨⟨(k1 W0 fun e=>hg e.symm).trans h1,h2,⟨by simp,.inr ⟨g,cap,_,by simp,q1,b2,by simpa using q3,q4,by simpa using q5,?_⟩⟩,h5⟩,⟨hB.os,hB.tape,hB.output,hB.size,fun k hk hn=>k1 k (by simpa using hn)⟩,hp⟩
  have h6 : cur.toList.take l.length = ivs l:=by simpa using q6
  simp only [List.length_set,Nat.mul_one,Array.toList_setIfInBounds,List.take_set,h6,ivs,List.map_set]
theorem HQ.at5' {w : World} {B W0 : Nat} {cs : Array Value} {T : TypeId} {lv : Value} {l : List Int} (h : HQ w B W0 cs T lv l) : w.cell? ⟨W0,5,none⟩ = some lv:=by rw [ob_cell h.blk]; exact h.at5
theorem wrap_small (n : Nat) (h : n ≤ 4000001) : RowKit.wrap64 (n : Int) = (n : Int):=by unfold RowKit.wrap64; omega
theorem ne_half {q z : Nat} (h : q / 2 = z) : ((z : Int) == (q : Int) + 1) = false:=by rw [beq_eq_false_iff_ne]; omega
theorem drew_mv (w : World) (L : List Nat) : Mv w w.drew L:=Mv.of_below (Below.refl _ w).drew _
theorem vup_any (B W0 : Nat) (cs : Array Value) (T : TypeId) (lv : Value) (l : List Int) (j : Nat) (w : World) (h : HQ w B W0 cs T lv l) (hj : j < l.length) (hl : l.length ≤ 1000001) :
    Calls Tryz.prog 64 #[.iface 82 (.pointer (some ⟨W0,5,none⟩)),.int .i64 (j : Int)] w fun e w'=>(∃ u,e = .returned u)∧∃ l',l'.Perm l∧HQ w' B W0 cs T lv l'∧Mv w w' (blkL lv):=by
  have HH:=Lib.hid h
  have HJ:=Lib.hid hj
  have HL:=Lib.hid hl
  clear h hj hl
  go_enter Tryz.func64,Tryz.ntmps64
  go_wp2_with (fail)
  go_loopg [1] j (fun kk jv wr=>jv = .int .i64 (kk : Int)∧kk < l.length∧∃ l',l'.Perm l∧HQ wr B W0 cs T lv l'∧Mv w wr (blkL lv))
  case atStart=>exact ⟨rfl,HJ.out,l,List.Perm.refl _,HH.out,Mv.refl _ _⟩
  case round =>
    obtain ⟨rfl,hm,l',hp,hq,hmv⟩:=hrel
    have hlen:=hp.length_eq
    obtain ⟨g,cap,cur,rfl,q1,q2,q3,q4,q5,q6,q7⟩:=hq.form (by omega)
    have hml : ∀ f, (method (f + 1) 82 (.pointer (some ⟨W0, 5, none⟩)) "Less").run Tryz.prog wr = .ok (265, .slice (some ⟨g, 0, none⟩) l'.length cap) wr := fun f => meth_less f W0 _ wr hq.at5'
    have hms : ∀ f, (method (f + 1) 82 (.pointer (some ⟨W0, 5, none⟩)) "Swap").run Tryz.prog wr.drew = .ok (267, .slice (some ⟨g, 0, none⟩) l'.length cap) wr.drew := fun f => meth_swap f W0 _ wr.drew hq.at5'
    rcases Nat.eq_zero_or_pos gk with rfl | hpos
    · have FF:=Lib.hid (show ∃ l'',l''.Perm l∧HQ wr B W0 cs T (.slice (some ⟨g,0,none⟩) l'.length cap) l''∧Mv w wr (blkL (.slice (some ⟨g,0,none⟩) l'.length cap)) from ⟨l',hp,hq,hmv⟩)
      clear hp hq hmv q1 q2 q3 q4 q5 q6 q7 hm hlen
      go_wp2_with (fail)
      go_end0
      exact ⟨⟨_,rfl⟩,FF.out⟩
    · obtain ⟨q,rfl⟩ : ∃ q,gk = q + 1:=⟨gk - 1,by omega⟩
      obtain ⟨x,hx⟩ : ∃ x,l'[q + 1]? = some x:=⟨_,List.getElem?_eq_getElem (by omega)⟩
      obtain ⟨y,hy⟩ : ∃ y,l'[q / 2]? = some y:=⟨_,List.getElem?_eq_getElem (by omega)⟩
      have LE:=Lib.hid (vless_any g l'.length cap (q + 1) (q / 2) x y wr (by omega) (by omega) ⟨q4,q5⟩ (q7 _ _ hx).1 (q7 _ _ hy).1)
      have SW:=Lib.hid (vswap_any g l'.length cap (q / 2) (q + 1) y x wr.drew (by omega) (by omega) ⟨q4,q5⟩ (q7 _ _ hy).1 (q7 _ _ hx).1 (q7 _ _ hy).2 (q7 _ _ hx).2)
      obtain ⟨z,hz⟩ : ∃ z,q / 2 = z:=⟨_,rfl⟩
      rw [hz] at LE SW hy
      have hq0 : q ≤ 4000001:=Nat.le_trans (Nat.le_of_lt (Nat.lt_of_succ_lt hm)) (Nat.le_trans HL.out (by decide))
      have hz0 : z ≤ 4000001:=Nat.le_trans (hz ▸ Nat.div_le_self q 2) hq0
      have w2 : Int.tdiv (q : Int) 2 = (z : Int):=by rw [← hz]; rfl
      have w3 : RowKit.wrap64 (q : Int) = (q : Int):=wrap_small q hq0
      have w4 : RowKit.wrap64 (z : Int) = (z : Int):=wrap_small z hz0
      have e1:=ne_half hz
      have HZ:=Lib.hid hz
      have HX:=Lib.hid hx
      have HY:=Lib.hid hy
      have HM:=Lib.hid hmv
      have HP:=Lib.hid hp
      have HQQ:=Lib.hid hq
      clear hp hq hmv q1 q2 q3 q4 q5 q6 q7 hlen hz hx hy hpos
      go_wp2_with (fail)
      refine LE.out.mono ?_
      rintro e w1 ⟨rfl,rfl⟩
      by_cases hlt : x < y
      · have d1 : decide (x < y) = true:=decide_eq_true hlt
        go_wp2_with (fail)
        refine SW.out.mono ?_
        rintro e w2 ⟨⟨u,rfl⟩,rfl⟩
        go_wp2_with (fail)
        go_roundg z
        case measure=>have:=HZ.out; omega
        case rel =>
          obtain ⟨s1,s2,s3⟩:=HQQ.out.swap HY.out HX.out
          exact ⟨rfl,by have:=HZ.out; omega,_,s3.trans HP.out,s1.heap rfl,HM.out.trans (s2.trans (Mv.of_below (Below.refl _ _).drew.drew _))⟩
      · have d1 : decide (x < y) = false:=decide_eq_false hlt
        go_wp2_with (fail)
        go_end0
        exact ⟨⟨_,rfl⟩,l',HP.out,HQQ.out.heap rfl,HM.out.trans (Mv.of_below (Below.refl _ _).drew _)⟩
end LM
namespace LM
theorem vdown_any (B W0 : Nat) (cs : Array Value) (T : TypeId) (lv : Value) (l : List Int) (n : Nat) (w : World) (h : HQ w B W0 cs T lv l) (hn : n ≤ l.length) (h0 : 0 < l.length) (hl : l.length ≤ 1000001) :
    Calls Tryz.prog 47 #[.iface 82 (.pointer (some ⟨W0,5,none⟩)),.int .i64 0,.int .i64 (n : Int)] w fun e w'=>(∃ u,e = .returned u)∧∃ l',l'.Perm l∧(∀ j,n ≤ j → l'[j]? = l[j]?)∧HQ w' B W0 cs T lv l'∧Mv w w' (blkL lv):=by
  have HH:=Lib.hid h
  have HN:=Lib.hid hn
  have HL:=Lib.hid hl
  have H0:=Lib.hid h0
  clear h hn hl h0
  go_enter Tryz.func47,Tryz.ntmps47
  go_wp2_with (fail)
  go_loopg [7] n (fun kk iv wr=>∃ i : Nat,iv = .int .i64 (i : Int)∧kk = n - i∧(i < n ∨ i = 0)∧∃ l',l'.Perm l∧(∀ j,n ≤ j → l'[j]? = l[j]?)∧HQ wr B W0 cs T lv l'∧Mv w wr (blkL lv))
  case atStart=>exact ⟨0,rfl,rfl,.inr rfl,l,List.Perm.refl _,fun _ _=>rfl,HH.out,Mv.refl _ _⟩
  case round =>
    obtain ⟨i,rfl,rfl,hi,l',hp,hk,hq,hmv⟩:=hrel
    have hlen:=hp.length_eq
    have HN2:=HN.out
    have HL2:=HL.out
    have H02:=H0.out
    obtain ⟨g,cap,cur,rfl,q1,q2,q3,q4,q5,q6,q7⟩:=hq.form (by omega)
    have hml : ∀ f, (method (f + 1) 82 (.pointer (some ⟨W0, 5, none⟩)) "Less").run Tryz.prog wr = .ok (265, .slice (some ⟨g, 0, none⟩) l'.length cap) wr := fun f => meth_less f W0 _ wr hq.at5'
    have hml2 : ∀ f, (method (f + 1) 82 (.pointer (some ⟨W0, 5, none⟩)) "Less").run Tryz.prog wr.drew = .ok (265, .slice (some ⟨g, 0, none⟩) l'.length cap) wr.drew := fun f => meth_less f W0 _ wr.drew hq.at5'
    have hms : ∀ f, (method (f + 1) 82 (.pointer (some ⟨W0, 5, none⟩)) "Swap").run Tryz.prog wr.drew = .ok (267, .slice (some ⟨g, 0, none⟩) l'.length cap) wr.drew := fun f => meth_swap f W0 _ wr.drew hq.at5'
    have hms2 : ∀ f, (method (f + 1) 82 (.pointer (some ⟨W0, 5, none⟩)) "Swap").run Tryz.prog wr.drew.drew = .ok (267, .slice (some ⟨g, 0, none⟩) l'.length cap) wr.drew.drew := fun f => meth_swap f W0 _ wr.drew.drew hq.at5'
    have v1 : RowKit.wrap64 (2 * (i : Int)) = 2 * (i : Int):=by have:=wrap_small (2 * i) (by omega); simpa using this
    have v2 : RowKit.wrap64 (2 * (i : Int) + 1) = 2 * (i : Int) + 1:=by have:=wrap_small (2 * i + 1) (by omega); simpa using this
    have v3 : RowKit.wrap64 (2 * (i : Int) + 1 + 1) = 2 * (i : Int) + 1 + 1:=by have:=wrap_small (2 * i + 1 + 1) (by omega); simpa using this
    have z0 : decide (2 * (i : Int) + 1 < 0) = false:=decide_eq_false (by omega)
    by_cases c1 : n ≤ 2 * i + 1
    · have d1 : decide ((n : Int) ≤ 2 * (i : Int) + 1) = true:=decide_eq_true (by omega)
      have FF:=Lib.hid (show ∃ l'',l''.Perm l∧(∀ j,n ≤ j → l''[j]? = l[j]?)∧HQ wr B W0 cs T (.slice (some ⟨g,0,none⟩) l'.length cap) l''∧Mv w wr (blkL (.slice (some ⟨g,0,none⟩) l'.length cap)) from ⟨l',hp,hk,hq,hmv⟩)
      clear hp hk hq hmv q1 q2 q3 q4 q5 q6 q7 hlen HN2 HL2 H02 hi c1
      go_wp2_with (fail)
      go_ret
      exact ⟨⟨_,rfl⟩,FF.out⟩
    have d1 : decide ((n : Int) ≤ 2 * (i : Int) + 1) = false:=decide_eq_false (by omega)
    obtain ⟨y,hy⟩ : ∃ y,l'[i]? = some y:=⟨_,List.getElem?_eq_getElem (by omega)⟩
    obtain ⟨x1,hx1⟩ : ∃ x,l'[2 * i + 1]? = some x:=⟨_,List.getElem?_eq_getElem (by omega)⟩
    have LA:=Lib.hid fun W (hW : W.heap = wr.heap)=>vless_any g l'.length cap (2 * i + 1) i x1 y W (by omega) (by omega) ⟨q4,q5⟩ (by unfold World.cell?; rw [hW]; exact (q7 _ _ hx1).1) (by unfold World.cell?; rw [hW]; exact (q7 _ _ hy).1)
    have SA:=Lib.hid fun W (hW : W.heap = wr.heap)=>vswap_any g l'.length cap i (2 * i + 1) y x1 W (by omega) (by omega) ⟨q4,q5⟩ (by unfold World.cell?; rw [hW]; exact (q7 _ _ hy).1) (by unfold World.cell?; rw [hW]; exact (q7 _ _ hx1).1) (by unfold World.frozen?; rw [hW]; exact (q7 _ _ hy).2) (by unfold World.frozen?; rw [hW]; exact (q7 _ _ hx1).2)
    have HY:=Lib.hid hy
    have HX1:=Lib.hid hx1
    have HM:=Lib.hid hmv
    have HP:=Lib.hid hp
    have HK:=Lib.hid hk
    have HQQ:=Lib.hid hq
    have HI:=Lib.hid hi
    have HC1:=Lib.hid c1
    by_cases c2 : 2 * i + 2 < n
    · have d2 : decide (2 * (i : Int) + 1 + 1 < (n : Int)) = true:=decide_eq_true (by omega)
      obtain ⟨x2,hx2⟩ : ∃ x,l'[2 * i + 2]? = some x:=⟨_,List.getElem?_eq_getElem (by omega)⟩
      have LB:=Lib.hid (vless_any g l'.length cap (2 * i + 2) (2 * i + 1) x2 x1 wr (by omega) (by omega) ⟨q4,q5⟩ (q7 _ _ hx2).1 (q7 _ _ hx1).1)
      have LC:=Lib.hid (vless_any g l'.length cap (2 * i + 2) i x2 y wr.drew (by omega) (by omega) ⟨q4,q5⟩ (q7 _ _ hx2).1 (q7 _ _ hy).1)
      have SC:=Lib.hid (vswap_any g l'.length cap i (2 * i + 2) y x2 wr.drew.drew (by omega) (by omega) ⟨q4,q5⟩ (q7 _ _ hy).1 (q7 _ _ hx2).1 (q7 _ _ hy).2 (q7 _ _ hx2).2)
      have HX2:=Lib.hid hx2
      have HC2:=Lib.hid c2
      clear hp hk hq hmv q1 q2 q3 q4 q5 q6 q7 hlen HN2 HL2 H02 hi c1 c2 hy hx1 hx2
      go_wp2_with (fail)
      refine LB.out.mono ?_
      rintro e w1 ⟨rfl,rfl⟩
      by_cases b1 : x2 < x1
      · have e1 : decide (x2 < x1) = true:=decide_eq_true b1
        go_wp2_with (fail)
        refine LC.out.mono ?_
        rintro e w1 ⟨rfl,rfl⟩
        by_cases b2 : x2 < y
        · have e2 : decide (x2 < y) = true:=decide_eq_true b2
          go_wp2_with (fail)
          refine SC.out.mono ?_
          rintro e w2 ⟨⟨u,rfl⟩,rfl⟩
          go_wp2_with (fail)
          go_roundg (n - (2 * i + 2))
          case measure=>have:=HC2.out; omega
          case rel =>
            obtain ⟨s1,s2,s3⟩:=HQQ.out.swap HY.out HX2.out
            exact ⟨2 * i + 2,by first | rfl | (congr 1),rfl,.inl HC2.out,_,s3.trans HP.out,fun j hj=>by have:=HC2.out; rw [List.getElem?_set_ne (by omega),List.getElem?_set_ne (by omega)]; exact HK.out j hj,s1.heap rfl,HM.out.trans (s2.trans (Mv.of_below (Below.refl _ _).drew.drew.drew _))⟩
        · have e2 : decide (x2 < y) = false:=decide_eq_false b2
          go_wp2_with (fail)
          go_ret
          exact ⟨⟨_,rfl⟩,l',HP.out,HK.out,HQQ.out.heap rfl,HM.out.trans (Mv.of_below (Below.refl _ _).drew.drew _)⟩
      · have e1 : decide (x2 < x1) = false:=decide_eq_false b1
        go_wp2_with (fail)
        refine (LA.out wr.drew rfl).mono ?_
        rintro e w1 ⟨rfl,rfl⟩
        by_cases b2 : x1 < y
        · have e2 : decide (x1 < y) = true:=decide_eq_true b2
          go_wp2_with (fail)
          refine (SA.out wr.drew.drew rfl).mono ?_
          rintro e w2 ⟨⟨u,rfl⟩,rfl⟩
          go_wp2_with (fail)
          go_roundg (n - (2 * i + 1))
          case measure=>have:=HC2.out; omega
          case rel =>
            obtain ⟨s1,s2,s3⟩:=HQQ.out.swap HY.out HX1.out
            exact ⟨2 * i + 1,by first | rfl | (congr 1),rfl,.inl (by have:=HC2.out; omega),_,s3.trans HP.out,fun j hj=>by have:=HC2.out; rw [List.getElem?_set_ne (by omega),List.getElem?_set_ne (by omega)]; exact HK.out j hj,s1.heap rfl,HM.out.trans (s2.trans (Mv.of_below (Below.refl _ _).drew.drew.drew _))⟩
        · have e2 : decide (x1 < y) = false:=decide_eq_false b2
          go_wp2_with (fail)
          go_ret
          exact ⟨⟨_,rfl⟩,l',HP.out,HK.out,HQQ.out.heap rfl,HM.out.trans (Mv.of_below (Below.refl _ _).drew.drew _)⟩
    · have d2 : decide (2 * (i : Int) + 1 + 1 < (n : Int)) = false:=decide_eq_false (by omega)
      clear hp hk hq hmv q1 q2 q3 q4 q5 q6 q7 hlen HN2 HL2 H02 hi c1 c2 hy hx1
      go_wp2_with (fail)
      refine (LA.out wr rfl).mono ?_
      rintro e w1 ⟨rfl,rfl⟩
      by_cases b2 : x1 < y
      · have e2 : decide (x1 < y) = true:=decide_eq_true b2
        go_wp2_with (fail)
        refine (SA.out wr.drew rfl).mono ?_
        rintro e w2 ⟨⟨u,rfl⟩,rfl⟩
        go_wp2_with (fail)
        go_roundg (n - (2 * i + 1))
        case measure=>have:=HC1.out; omega
        case rel =>
          obtain ⟨s1,s2,s3⟩:=HQQ.out.swap HY.out HX1.out
          exact ⟨2 * i + 1,by first | rfl | (congr 1),rfl,.inl (by have:=HC1.out; omega),_,s3.trans HP.out,fun j hj=>by have:=HC1.out; rw [List.getElem?_set_ne (by omega),List.getElem?_set_ne (by omega)]; exact HK.out j hj,s1.heap rfl,HM.out.trans (s2.trans (Mv.of_below (Below.refl _ _).drew.drew _))⟩
      · have e2 : decide (x1 < y) = false:=decide_eq_false b2
        go_wp2_with (fail)
        go_ret
        exact ⟨⟨_,rfl⟩,l',HP.out,HK.out,HQQ.out.heap rfl,HM.out.trans (Mv.of_below (Below.refl _ _).drew _)⟩
end LM
namespace LM
theorem vpop_any (B W0 : Nat) (cs : Array Value) (T : TypeId) (lv : Value) (l : List Int) (x : Int) (w : World) (h : HQ w B W0 cs T lv (l ++ [x])) (hl : l.length ≤ 1000000) :
    Calls Tryz.prog 268 #[.pointer (some ⟨W0,5,none⟩)] w fun e w'=>e = .returned (.iface 3 (.int .i64 x))∧∃ lv',HQ w' B W0 (cs.setIfInBounds 5 lv') T lv' l∧Mv w w' [W0]∧lv'.ownBlock = lv.ownBlock:=by
  obtain ⟨g,cap,cur,rfl,q1,q2,q3,q4,q5,q6,q7⟩:=h.form (by simp)
  have hlen : (l ++ [x]).length = l.length + 1:=by simp
  rw [hlen] at q4
  have hx:=q7 l.length x (by simp)
  have H:=Lib.hid h
  have hc5 : 5 < cs.size:=(Array.getElem?_eq_some_iff.1 h.at5).1
  have l5 : w.cell? ⟨W0,5,none⟩ = some (.slice (some ⟨g,0,none⟩) (l.length + 1) cap):=by have:=h.at5'; rw [hlen] at this; exact this
  have f5:=ob_free h.blk 5 hc5
  have x1:=hx.1
  have w1 : RowKit.wrap64 (l.length : Int) = (l.length : Int):=wrap_small _ (Nat.le_trans hl (by decide))
  have a1 : (0 : Int) ≤ (l.length : Int):=by omega
  have a2 : (l.length : Int) < (l.length : Int) + 1:=by omega
  have a3 : (l.length : Int) + 1 ≤ (cap : Int):=by omega
  have a4 : (cap : Int) ≤ 9223372036854775807:=by omega
  have a5 : (l.length : Int) ≤ (cap : Int):=by omega
  have FF : Hid (HQ (w.setCell ⟨W0,5,none⟩ (.slice (some ⟨g,0,none⟩) l.length cap)) B W0 (cs.setIfInBounds 5 (.slice (some ⟨g,0,none⟩) l.length cap)) T (.slice (some ⟨g,0,none⟩) l.length cap) l∧Mv w (w.setCell ⟨W0,5,none⟩ (.slice (some ⟨g,0,none⟩) l.length cap)) [W0]):=Lib.hid (by
    obtain ⟨WF,hWF⟩ : ∃ WF,w.setCell ⟨W0,5,none⟩ (.slice (some ⟨g,0,none⟩) l.length cap) = WF:=⟨_,rfl⟩
    have hB : Below 0 w WF:=by rw [← hWF]; exact (Below.refl 0 w).setCell (Nat.zero_le _) _
    have hk : ∀ q,q ≠ W0 → WF.heap[q]? = w.heap[q]?:=fun q hq=>by rw [← hWF]; exact heap_setCell_other _ (⟨W0,5,none⟩ : Addr) _ _ hq
    have hb : WF.heap[W0]? = some (.cells (cs.setIfInBounds 5 (.slice (some ⟨g,0,none⟩) l.length cap)) T (0,0)):=by
      rw [← hWF]
      exact Go.Lib.heap_setCell_same (i:=5) h.blk _
    rw [hWF]
    refine ⟨⟨hb,by simp [hc5],⟨by simp,.inr ⟨g,cap,cur,rfl,q1,(hk g q2).trans q3,by omega,by unfold maxLen; exact Nat.le_trans q5 (by decide),by omega,?_⟩⟩,by simp [Value.ownBlock]; exact q2⟩,⟨hB.os,hB.tape,hB.output,hB.size,fun k _ hn=>hk k (by simpa using hn)⟩⟩
    obtain ⟨-,h8⟩:=h.own
    rcases h8 with ⟨h8,-⟩ | ⟨g',cap',cur',h8,-,r1,-,-,-,r2⟩
    · cases h8
    · simp only [Value.slice.injEq,Option.some.injEq,Addr.mk.injEq,and_true,true_and] at h8
      obtain ⟨rfl,rfl⟩:=h8
      have e1:=r1.symm.trans q3
      simp only [Option.some.injEq,Obj.cells.injEq,and_true] at e1
      subst e1
      have e2 : List.take l.length cur'.toList = List.take l.length (ivs (l ++ [x])):=by
        rw [← r2,List.take_take,Nat.min_eq_left (by simp)]
      rw [Nat.mul_one,e2]
      simp [ivs])
  clear h q1 q2 q3 q4 q5 q6 q7 hx hlen hl hc5
  go_enter Tryz.func268,Tryz.ntmps268
  go_wp2_with (fail)
  go_ret
  exact ⟨rfl,_,FF.out.1,FF.out.2,rfl⟩
end LM
namespace LM
theorem Mv.then {w w1 w2 : World} {L L' : List Nat} (h : Mv w w1 L) (h' : Mv w1 w2 L') (hs : ∀ k,k < w.heap.size → k ∈ L' → k ∈ L) : Mv w w2 L :=
  ⟨h'.os.trans h.os,h'.tape.trans h.tape,h'.output.trans h.output,Nat.le_trans h.size h'.size,fun k hk hn=>(h'.keep k (Nat.lt_of_lt_of_le hk h.size) fun e=>hn (hs k hk e)).trans (h.keep k hk hn)⟩
theorem mem_blk {lv : Value} {k : Nat} (h : k ∈ blkL lv) : lv.ownBlock = some k:=by
  unfold blkL at h
  split at h
  · rename_i b e
    rw [e,List.mem_singleton.1 h]
  · cases h
theorem vhpush_any (B W0 : Nat) (cs : Array Value) (T : TypeId) (lv : Value) (l : List Int) (v : Int) (w : World) (h : HQ w B W0 cs T lv l) (hl : l.length ≤ 1000000) (hB : B ≤ w.heap.size) :
    Calls Tryz.prog 46 #[.iface 82 (.pointer (some ⟨W0,5,none⟩)),.iface 3 (.int .i64 v)] w fun e w'=>(∃ u,e = .returned u)∧∃ lv' l',l'.Perm (l ++ [v])∧HQ w' B W0 (cs.setIfInBounds 5 lv') T lv' l'∧Mv w w' (W0 :: blkL lv)∧(lv'.ownBlock = lv.ownBlock ∨ ∃ b,lv'.ownBlock = some b∧w.heap.size ≤ b):=by
  have P:=Lib.hid (vpush_any B W0 cs T lv l v w h hl hB)
  have HL:=Lib.hid hl
  have w1:=wrap_small l.length (Nat.le_trans hl (by decide))
  clear h hl hB
  go_enter Tryz.func46,Tryz.ntmps46
  go_wp2_with (fail)
  refine P.out.mono ?_
  rintro e wx ⟨⟨u,rfl⟩,lv',h1,h2,h3⟩
  obtain ⟨g,cap,cur,rfl,q1,q2,q3,q4,q5,q6,q7⟩:=h1.form (by simp)
  have hlen : (l ++ [v]).length = l.length + 1:=by simp
  have hm : ∀ f, (method (f + 1) 82 (.pointer (some ⟨W0, 5, none⟩)) "Len").run Tryz.prog wx = .ok (29, .slice (some ⟨g, 0, none⟩) (l.length + 1) cap) wx := fun f => by have := meth_len f W0 _ wx h1.at5'; rw [hlen] at this; exact this
  have LN:=Lib.hid (vlen_any (some ⟨g,0,none⟩) (l.length + 1) cap wx)
  have U:=Lib.hid (vup_any B W0 _ T _ (l ++ [v]) l.length wx h1 (by simp) (by have:=HL.out; rw [hlen]; omega))
  have H2:=Lib.hid h2
  have H3:=Lib.hid h3
  clear h1 h2 h3 q1 q2 q3 q4 q5 q6 q7 hlen
  go_wp2_with (fail)
  refine LN.out.mono ?_
  rintro e w2 ⟨rfl,rfl⟩
  go_wp2_with (fail)
  refine U.out.mono ?_
  rintro e w2 ⟨⟨u2,rfl⟩,l',r1,r2,r3⟩
  have FF:=Lib.hid (And.intro r1 (And.intro r2 (And.intro (H2.out.then r3 fun k hk hm=>by
    rcases H3.out with e | ⟨b,e,hb⟩
    · exact List.mem_cons_of_mem _ (blk_mem ((mem_blk hm).symm.trans e))
    · have:=(mem_blk hm).symm.trans e
      simp only [Option.some.injEq] at this
      omega) H3.out)))
  clear r1 r2 r3
  go_wp2_with (fail)
  go_end0
  exact ⟨⟨_,rfl⟩,_,_,FF.out⟩
theorem vhpop_any (B W0 : Nat) (cs : Array Value) (T : TypeId) (lv : Value) (l : List Int) (w : World) (h : HQ w B W0 cs T lv l) (h0 : 0 < l.length) (hl : l.length ≤ 1000000) :
    Calls Tryz.prog 30 #[.iface 82 (.pointer (some ⟨W0,5,none⟩))] w fun e w'=>∃ v rest lv',e = .returned (.iface 3 (.int .i64 v))∧l.Perm (v :: rest)∧HQ w' B W0 (cs.setIfInBounds 5 lv') T lv' rest∧Mv w w' (W0 :: blkL lv)∧lv'.ownBlock = lv.ownBlock:=by
  obtain ⟨n,hn⟩ : ∃ n,l.length = n + 1:=⟨l.length - 1,by omega⟩
  obtain ⟨g,cap,cur,rfl,q1,q2,q3,q4,q5,q6,q7⟩:=h.form h0
  obtain ⟨x,hx⟩ : ∃ x,l[0]? = some x:=⟨_,List.getElem?_eq_getElem h0⟩
  obtain ⟨y,hy⟩ : ∃ y,l[n]? = some y:=⟨_,List.getElem?_eq_getElem (by omega)⟩
  obtain ⟨s1,s2,s3⟩:=h.swap hx hy
  obtain ⟨l1,hl1⟩ : ∃ l1,(l.set 0 y).set n x = l1:=⟨_,rfl⟩
  rw [hl1] at s1 s3
  have hlen1 : l1.length = n + 1:=by rw [← hl1]; simp; omega
  have hx1 : l1[n]? = some x:=by rw [← hl1,List.getElem?_set_self (by simp; omega)]
  have hm : ∀ f, (method (f + 1) 82 (.pointer (some ⟨W0, 5, none⟩)) "Len").run Tryz.prog w = .ok (29, .slice (some ⟨g, 0, none⟩) (n + 1) cap) w := fun f => by have := meth_len f W0 _ w h.at5'; rw [hn] at this; exact this
  have hs : ∀ f, (method (f + 1) 82 (.pointer (some ⟨W0, 5, none⟩)) "Swap").run Tryz.prog w = .ok (267, .slice (some ⟨g, 0, none⟩) (n + 1) cap) w := fun f => by have := meth_swap f W0 _ w h.at5'; rw [hn] at this; exact this
  have LN:=Lib.hid (vlen_any (some ⟨g,0,none⟩) (n + 1) cap w)
  have SW:=Lib.hid (vswap_any g (n + 1) cap 0 n x y w (by omega) (by omega) ⟨by omega,q5⟩ (q7 _ _ hx).1 (q7 _ _ hy).1 (q7 _ _ hx).2 (q7 _ _ hy).2)
  obtain ⟨W1,hW1⟩ : ∃ W1,((w.setCell ⟨g,0,none⟩ (.int .i64 y)).setCell ⟨g,n,none⟩ (.int .i64 x)).drew = W1:=⟨_,rfl⟩
  rw [hW1] at SW
  have s1' : HQ W1 B W0 cs T (.slice (some ⟨g,0,none⟩) l.length cap) l1:=s1.heap (by rw [← hW1]; rfl)
  have s2' : Mv w W1 [g]:=by rw [← hW1]; exact s2.trans (drew_mv _ _)
  have DN:=Lib.hid (vdown_any B W0 cs T _ l1 n W1 s1' (by omega) (by omega) (by omega))
  have w1:=wrap_small n (by omega)
  have HN:=Lib.hid hn
  have HL:=Lib.hid hl
  have HX1:=Lib.hid hx1
  have HL1:=Lib.hid hlen1
  have S2:=Lib.hid s2'
  have S3:=Lib.hid s3
  clear h h0 hl hn q1 q2 q3 q4 q5 q6 q7 hx hy s1 s2 s3 hl1 hlen1 hx1 hW1 s1' s2'
  go_enter Tryz.func30,Tryz.ntmps30
  go_wp2_with (fail)
  refine LN.out.mono ?_
  rintro e w2 ⟨rfl,rfl⟩
  go_wp2_with (fail)
  refine SW.out.mono ?_
  rintro e w2 ⟨⟨u,rfl⟩,rfl⟩
  go_wp2_with (fail)
  refine DN.out.mono ?_
  rintro e w3 ⟨⟨u2,rfl⟩,l2,r1,r2,r3,r4⟩
  have hl2 : l2.length = n + 1:=r1.length_eq.trans HL1.out
  have hxn : l2[n]? = some x:=(r2 n (Nat.le_refl _)).trans HX1.out
  have hsp : l2 = l2.take n ++ [x]:=by
    have h5:=List.take_append_drop n l2
    rw [List.drop_eq_getElem_cons (by omega),List.drop_eq_nil_of_le (by omega)] at h5
    rw [(List.getElem?_eq_some_iff.1 hxn).2] at h5
    exact h5.symm
  obtain ⟨rest,hrest⟩ : ∃ rest,l2.take n = rest:=⟨_,rfl⟩
  rw [hrest] at hsp
  subst hsp
  have hrl : rest.length ≤ 1000000:=by have:=HL.out; have:=HN.out; simp at hl2; omega
  have PP:=Lib.hid (vpop_any B W0 cs T _ rest x w3 r3 hrl)
  have R1:=Lib.hid (show l.Perm (x :: rest) from (S3.out.symm.trans r1.symm).trans (by
    rw [← List.singleton_append]
    exact List.perm_append_comm))
  have R4:=Lib.hid r4
  clear r1 r2 r3 r4 hl2 hxn hrest hrl
  go_wp2_with (fail)
  refine PP.out.mono ?_
  rintro e w4 ⟨rfl,lv',t1,t2,t3⟩
  have FF:=Lib.hid (And.intro t1 (And.intro (show Mv w w4 (W0 :: blkL (.slice (some ⟨g,0,none⟩) l.length cap)) from
    ((S2.out.trans R4.out).mono fun k _ hk=>List.mem_cons_of_mem _ hk).trans (t2.mono fun k _ hk=>by simp at hk; simp [hk])) t3))
  clear t1 t2 t3
  go_wp2_with (fail)
  go_ret
  exact ⟨_,_,_,rfl,R1.out,FF.out⟩
end LM
namespace LM
abbrev walkC (p0 p1 p2 p3 : Value) (g1 n : Nat) (lv : Value) : Array Value:=#[p0,p1,p2,p3,.slice (some ⟨g1,0,none⟩) n n,lv]
structure WS (w : World) (B W0 g1 : Nat) (p0 p1 p2 p3 : Value) (ds : List Int) (lv : Value) (q : List Int) : Prop where
  hq : HQ w B W0 (walkC p0 p1 p2 p3 g1 ds.length lv) 78 lv q
  dep : w.heap[g1]? = some (.cells (ivs ds).toArray 3 (0,0))
  ne1 : g1 ≠ W0
  ne2 : lv.ownBlock ≠ some g1
  bW : B ≤ W0
  bg : B ≤ g1
  bw : B ≤ w.heap.size
theorem HQ.other {w w' : World} {B W0 g1 : Nat} {cs : Array Value} {T : TypeId} {lv : Value} {l : List Int} (h : HQ w B W0 cs T lv l) (hm : Mv w w' [g1]) (h1 : g1 ≠ W0) (h2 : lv.ownBlock ≠ some g1) : HQ w' B W0 cs T lv l:=by
  obtain ⟨k1,k2,⟨k3,k4⟩,k5⟩:=h
  refine ⟨(hm.keep W0 (hlt_of k1) (by simp; exact fun e=>h1 e.symm)).trans k1,k2,⟨k3,?_⟩,k5⟩
  rcases k4 with k4 | ⟨g,cap,cur,rfl,r1,r2,r3⟩
  · exact .inl k4
  · exact .inr ⟨g,cap,cur,rfl,r1,(hm.keep g (hlt_of r2) (by simp; rintro rfl; exact h2 rfl)).trans r2,r3⟩
theorem HQ.blk_base {w : World} {B W0 : Nat} {cs : Array Value} {T : TypeId} {lv : Value} {l : List Int} (h : HQ w B W0 cs T lv l) : ∀ k ∈ blkL lv,B ≤ k:=fun k hk=>by
  have e:=mem_blk hk
  obtain ⟨-,⟨rfl,-⟩ | ⟨g,cap,cur,rfl,r1,-⟩⟩:=h.own
  · cases e
  · injection e with e
    subst e
    exact r1
theorem WS.set {w : World} {B W0 g1 : Nat} {p0 p1 p2 p3 : Value} {ds : List Int} {lv : Value} {q : List Int} (h : WS w B W0 g1 p0 p1 p2 p3 ds lv q) (i : Nat) (d : Int) :
    WS (w.setCell ⟨g1,i,none⟩ (.int .i64 d)) B W0 g1 p0 p1 p2 p3 (ds.set i d) lv q∧Mv w (w.setCell ⟨g1,i,none⟩ (.int .i64 d)) [g1]:=by
  obtain ⟨h1,h2,h3,h4,h5,h6,h7⟩:=h
  have hB : Below 0 w (w.setCell ⟨g1,i,none⟩ (.int .i64 d)):=(Below.refl 0 w).setCell (Nat.zero_le _) _
  have hm : Mv w (w.setCell ⟨g1,i,none⟩ (.int .i64 d)) [g1]:=⟨hB.os,hB.tape,hB.output,hB.size,fun k _ hn=>heap_setCell_other _ (⟨g1,i,none⟩ : Addr) _ _ (by simpa using hn)⟩
  refine ⟨⟨by rw [List.length_set]; exact h1.other hm h3 h4,?_,h3,h4,h5,h6,by rw [World.size_setCell]; exact h7⟩,hm⟩
  rw [Go.Lib.heap_setCell_same (i:=i) h2 (.int .i64 d)]
  simp [ivs,List.map_set]
theorem WS.dcell {w : World} {B W0 g1 : Nat} {p0 p1 p2 p3 : Value} {ds : List Int} {lv : Value} {q : List Int} (h : WS w B W0 g1 p0 p1 p2 p3 ds lv q) {i : Nat} {d : Int} (hi : ds[i]? = some d) :
    w.cell? ⟨g1,i,none⟩ = some (.int .i64 d)∧w.frozen? ⟨g1,i,none⟩ = false:=by
  have hl:=(List.getElem?_eq_some_iff.1 hi).1
  exact ⟨by rw [ob_cell h.dep]; simp [ivs,hi],ob_free h.dep i (by simp [ivs]; exact hl)⟩
def comS (ds : List Int) (i : Nat) (d : Int) : Bool × List Int × List Int:=if ds[i]? = some (-1) then (true,ds.set i d,[(i : Int)]) else (decide (ds[i]? = some d),ds,[])
theorem vcome_any (B W0 g1 : Nat) (p0 p1 p2 p3 : Value) (ds : List Int) (lv : Value) (q : List Int) (i : Nat) (d : Int) (w : World) (h : WS w B W0 g1 p0 p1 p2 p3 ds lv q) (hi : i < ds.length) (hn : ds.length ≤ 1000000) (hq : q.length ≤ 1000000) :
    Calls Tryz.prog 28 #[.pointer (some ⟨W0,0,none⟩),.int .i64 (i : Int),.int .i64 d] w fun e w'=>e = .returned (.bool (comS ds i d).1)∧∃ lv' q',q'.Perm (q ++ (comS ds i d).2.2)∧WS w' B W0 g1 p0 p1 p2 p3 (comS ds i d).2.1 lv' q'∧Below B w w'∧Mv w w' (W0 :: g1 :: blkL lv):=by
  obtain ⟨x,hx⟩ : ∃ x,ds[i]? = some x:=⟨_,List.getElem?_eq_getElem hi⟩
  have d4 : w.cell? ⟨W0,4,none⟩ = some (.slice (some ⟨g1,0,none⟩) ds.length ds.length):=ob_cell h.hq.blk 4
  obtain ⟨c1,f1⟩:=h.dcell hx
  obtain ⟨n,hnn⟩ : ∃ n,ds.length = n:=⟨_,rfl⟩
  rw [hnn] at d4
  have a1 : (0 : Int) ≤ (i : Int):=by omega
  have a2 : (i : Int) < (n : Int):=by omega
  have a3 : (n : Int) ≤ 9223372036854775807:=by omega
  by_cases hx1 : x = -1
  · subst hx1
    have hcs : comS ds i d = (true,ds.set i d,[(i : Int)]):=by unfold comS; rw [if_pos hx]
    rw [hcs]
    obtain ⟨s1,s2⟩:=h.set i d
    obtain ⟨W1,hW1⟩ : ∃ W1,w.setCell ⟨g1,i,none⟩ (.int .i64 d) = W1:=⟨_,rfl⟩
    rw [hW1] at s1 s2
    have P:=Lib.hid (vhpush_any B W0 _ _ lv q (i : Int) W1 s1.hq hq s1.bw)
    have HW1:=Lib.hid hW1
    have S1:=Lib.hid s1
    have S2:=Lib.hid s2
    have HS:=Lib.hid h
    have HI:=Lib.hid hi
    have d4' : W1.cell? ⟨W0,4,none⟩ = some (.slice (some ⟨g1,0,none⟩) n n):=by have h9:=ob_cell s1.hq.blk 4; rw [List.length_set,hnn] at h9; exact h9
    have HNN:=Lib.hid hnn
    clear h s1 s2 hW1 hx hcs hi hn hq hnn
    go_enter Tryz.func28,Tryz.ntmps28
    go_wp2_with (fail)
    rw [HW1.out]
    go_wp2_with (fail)
    refine P.out.mono ?_
    rintro e w2 ⟨⟨u,rfl⟩,lv',l',r1,r2,r3,r4⟩
    have hne2 : lv'.ownBlock ≠ some g1:=by
      rcases r4 with e | ⟨b,e,hb⟩
      · rw [e]; exact HS.out.ne2
      · rw [e]
        intro h9
        injection h9 with h9
        have:=hlt_of S1.out.dep
        omega
    have hg1L : g1 ∉ W0 :: blkL lv:=by
      simp only [List.mem_cons,not_or]
      exact ⟨HS.out.ne1,fun h9=>HS.out.ne2 (mem_blk h9)⟩
    have hws : WS w2 B W0 g1 p0 p1 p2 p3 (ds.set i d) lv' l':=⟨r2,(r3.keep g1 (hlt_of S1.out.dep) hg1L).trans S1.out.dep,HS.out.ne1,hne2,HS.out.bW,HS.out.bg,Nat.le_trans S1.out.bw r3.size⟩
    have hbl : Below B w w2:=(S2.out.below HS.out.bw (by simp; exact HS.out.bg)).trans (r3.below S1.out.bw (by
      intro k hk
      rcases List.mem_cons.1 hk with rfl | hk
      · exact HS.out.bW
      · exact HS.out.hq.blk_base k hk))
    have e4 : w2.cell? ⟨W0,4,none⟩ = some (.slice (some ⟨g1,0,none⟩) n n):=by have h9:=ob_cell hws.hq.blk 4; rw [List.length_set,HNN.out] at h9; exact h9
    have e5 : w2.cell? ⟨g1,i,none⟩ = some (.int .i64 d):=(hws.dcell (List.getElem?_set_self HI.out)).1
    have hmv : Mv w w2 (W0 :: g1 :: blkL lv):=(S2.out.mono fun k _ hk=>by simp at hk; simp [hk]).trans (r3.mono fun k _ hk=>by rcases List.mem_cons.1 hk with rfl | hk; exact List.mem_cons_self ..; exact List.mem_cons_of_mem _ (List.mem_cons_of_mem _ hk))
    have FF:=Lib.hid (And.intro r1 (And.intro hws (And.intro hbl hmv)))
    clear r1 r2 r3 r4 hne2 hg1L hws hbl hmv
    have e6 : (d == d) = true:=beq_self_eq_true d
    go_wp2_with (fail)
    go_ret
    exact ⟨rfl,_,_,FF.out⟩
  · have hcs : comS ds i d = (decide (x = d),ds,[]):=by
      unfold comS
      rw [hx,if_neg (by simp; exact hx1)]
      simp
    rw [hcs]
    have b1 : (x == -1) = false:=beq_eq_false_iff_ne.2 hx1
    have b2 : (x == d) = decide (x = d):=rfl
    have FF:=Lib.hid (show ∃ lv' q',q'.Perm (q ++ [])∧WS w B W0 g1 p0 p1 p2 p3 ds lv' q'∧Below B w w∧Mv w w (W0 :: g1 :: blkL lv) from ⟨lv,q,by simp,h,Below.refl _ _,Mv.refl _ _⟩)
    clear h hcs hx hx1 hi hn hq hnn
    go_enter Tryz.func28,Tryz.ntmps28
    go_wp2_with (fail)
    go_ret
    exact ⟨by first | rfl | (rw [b2]),FF.out⟩
end LM
namespace LM
theorem WS.keep {w w' : World} {B W0 g1 : Nat} {p0 p1 p2 p3 : Value} {ds : List Int} {lv : Value} {q : List Int} (h : WS w B W0 g1 p0 p1 p2 p3 ds lv q) (hb : Below w.heap.size w w') : WS w' B W0 g1 p0 p1 p2 p3 ds lv q:=by
  obtain ⟨⟨k1,k2,⟨k3,k4⟩,k5⟩,h2,h3,h4,h5,h6,h7⟩:=h
  refine ⟨⟨(hb.block _ (hlt_of k1)).trans k1,k2,⟨k3,?_⟩,k5⟩,(hb.block _ (hlt_of h2)).trans h2,h3,h4,h5,h6,Nat.le_trans h7 hb.size⟩
  rcases k4 with k4 | ⟨g,cap,cur,rfl,r1,r2,r3⟩
  · exact .inl k4
  · exact .inr ⟨g,cap,cur,rfl,r1,(hb.block g (hlt_of r2)).trans r2,r3⟩
structure PK (w : World) (B pb po ib io : Nat) (p : Prh) : Prop where
  p7 : P7 w pb po p
  pB : pb < B
  hB : 0 < p.code.length → p.B = some ⟨ib,io,none⟩
  ins : InsAt w ib io p.code
  iB : 0 < p.code.length → ib < B
  cap : p.code.length ≤ p.cap∧p.cap ≤ 9223372036854775807
theorem PK.keep {w w' : World} {B pb po ib io : Nat} {p : Prh} (h : PK w B pb po ib io p) (hb : Below B w w') (hw : B ≤ w.heap.size) : PK w' B pb po ib io p:=by
  obtain ⟨h1,h2,h3,h4,h5,h6⟩:=h
  refine ⟨h1.keep hb h2,h2,h3,fun j x hx=>?_,h5,h6⟩
  have hl : 0 < p.code.length:=Nat.lt_of_le_of_lt (Nat.zero_le _) (List.getElem?_eq_some_iff.1 hx).1
  exact ⟨Nat.lt_of_lt_of_le (h4 j x hx).1 (by have:=hb.size; exact this),(h4 j x hx).2.keep hb (h5 hl)⟩
def lookS (tk pu : Ins → Int) (code : List Ins) (de : Int) (i : Nat) (x : Ins) (d : Int) (ds : List Int) : Int × List Int × List Int :=
  if d - tk x < 0 ∨ de < d - tk x + pu x then (113,ds,[])
  else if goesB x = true∧i + 1 = code.length then (114,ds,[])
  else if goesB x = true∧(comS ds (i + 1) (d - tk x + pu x)).1 = false then (113,(comS ds (i + 1) (d - tk x + pu x)).2)
  else if jumpB x = true then
    (if (comS (if goesB x then (comS ds (i + 1) (d - tk x + pu x)).2.1 else ds) x.a.toNat (d - tk x + pu x)).1 then 0 else 113,
      (comS (if goesB x then (comS ds (i + 1) (d - tk x + pu x)).2.1 else ds) x.a.toNat (d - tk x + pu x)).2.1,
      (if goesB x then (comS ds (i + 1) (d - tk x + pu x)).2.2 else []) ++ (comS (if goesB x then (comS ds (i + 1) (d - tk x + pu x)).2.1 else ds) x.a.toNat (d - tk x + pu x)).2.2)
  else if goesB x then (0,(comS ds (i + 1) (d - tk x + pu x)).2) else (0,ds,[])
theorem com_len (ds : List Int) (i : Nat) (d : Int) : (comS ds i d).2.1.length = ds.length:=by
  unfold comS
  split <;> simp
theorem com_one (ds : List Int) (i : Nat) (d : Int) : (comS ds i d).2.2.length ≤ 1:=by
  unfold comS
  split <;> simp
theorem lookS_a {tk pu : Ins → Int} {code : List Ins} {de : Int} {i : Nat} {x : Ins} {d : Int} {ds : List Int} (h : d - tk x < 0 ∨ de < d - tk x + pu x) : lookS tk pu code de i x d ds = (113,ds,[]):=by unfold lookS; rw [if_pos h]
theorem lookS_b {tk pu : Ins → Int} {code : List Ins} {de : Int} {i : Nat} {x : Ins} {d : Int} {ds : List Int} (h : ¬(d - tk x < 0 ∨ de < d - tk x + pu x)) (g : goesB x = true) (e : i + 1 = code.length) : lookS tk pu code de i x d ds = (114,ds,[]):=by
  unfold lookS; rw [if_neg h,if_pos ⟨g,e⟩]
theorem lookS_c {tk pu : Ins → Int} {code : List Ins} {de : Int} {i : Nat} {x : Ins} {d : Int} {ds : List Int} (h : ¬(d - tk x < 0 ∨ de < d - tk x + pu x)) (g : goesB x = true) (e : ¬ i + 1 = code.length) {S : Bool × List Int × List Int} (hS : comS ds (i + 1) (d - tk x + pu x) = S) (hb : S.1 = false) :
    lookS tk pu code de i x d ds = (113,S.2):=by
  unfold lookS; rw [hS,if_neg h,if_neg (by simp [e]),if_pos ⟨g,hb⟩]
theorem lookS_d {tk pu : Ins → Int} {code : List Ins} {de : Int} {i : Nat} {x : Ins} {d : Int} {ds : List Int} (h : ¬(d - tk x < 0 ∨ de < d - tk x + pu x)) (g : goesB x = true) (e : ¬ i + 1 = code.length) {S : Bool × List Int × List Int} (hS : comS ds (i + 1) (d - tk x + pu x) = S) (hb : S.1 = true) (j : jumpB x = false) :
    lookS tk pu code de i x d ds = (0,S.2):=by
  unfold lookS; rw [hS,if_neg h,if_neg (by simp [e]),if_neg (by simp [hb]),if_neg (by simp [j]),if_pos g]
theorem lookS_e {tk pu : Ins → Int} {code : List Ins} {de : Int} {i : Nat} {x : Ins} {d : Int} {ds : List Int} (h : ¬(d - tk x < 0 ∨ de < d - tk x + pu x)) (g : goesB x = true) (e : ¬ i + 1 = code.length) {S T : Bool × List Int × List Int} (hS : comS ds (i + 1) (d - tk x + pu x) = S) (hb : S.1 = true) (j : jumpB x = true) {m : Nat} (hm : x.a = (m : Int)) (hT : comS S.2.1 m (d - tk x + pu x) = T) :
    lookS tk pu code de i x d ds = (if T.1 then 0 else 113,T.2.1,S.2.2 ++ T.2.2):=by
  unfold lookS; rw [hS,if_neg h,if_neg (by simp [e]),if_neg (by simp [hb]),if_pos j,if_pos g,if_pos g,hm,Int.toNat_natCast,hT]
theorem lookS_f {tk pu : Ins → Int} {code : List Ins} {de : Int} {i : Nat} {x : Ins} {d : Int} {ds : List Int} (h : ¬(d - tk x < 0 ∨ de < d - tk x + pu x)) (g : goesB x = false) (j : jumpB x = false) : lookS tk pu code de i x d ds = (0,ds,[]):=by
  unfold lookS; rw [if_neg h,if_neg (by simp [g]),if_neg (by simp [g]),if_neg (by simp [j]),if_neg (by simp [g])]
theorem lookS_g {tk pu : Ins → Int} {code : List Ins} {de : Int} {i : Nat} {x : Ins} {d : Int} {ds : List Int} (h : ¬(d - tk x < 0 ∨ de < d - tk x + pu x)) (g : goesB x = false) {T : Bool × List Int × List Int} (j : jumpB x = true) {m : Nat} (hm : x.a = (m : Int)) (hT : comS ds m (d - tk x + pu x) = T) :
    lookS tk pu code de i x d ds = (if T.1 then 0 else 113,T.2.1,T.2.2):=by
  unfold lookS; rw [if_neg h,if_neg (by simp [g]),if_neg (by simp [g]),if_pos j,hm,Int.toNat_natCast]; simp only [g,Bool.false_eq_true,if_false,hT,List.nil_append]
theorem HQ.blk_lt {w : World} {B W0 : Nat} {cs : Array Value} {T : TypeId} {lv : Value} {l : List Int} (h : HQ w B W0 cs T lv l) : ∀ k ∈ blkL lv,k < w.heap.size:=fun k hk=>by
  have e:=mem_blk hk
  obtain ⟨-,⟨rfl,-⟩ | ⟨g,cap,cur,rfl,r1,r2,r3⟩⟩:=h.own
  · cases e
  · injection e with e
    subst e
    exact hlt_of r2
theorem WS.notin {w : World} {B W0 g1 : Nat} {p0 p1 p2 p3 : Value} {ds : List Int} {lv : Value} {q : List Int} (h : WS w B W0 g1 p0 p1 p2 p3 ds lv q) {k : Nat} (hk : w.heap.size ≤ k) : k ∉ W0 :: g1 :: blkL lv:=by
  intro hm
  rcases List.mem_cons.1 hm with rfl | hm
  · exact Nat.lt_irrefl _ (Nat.lt_of_lt_of_le (hlt_of h.hq.blk) hk)
  rcases List.mem_cons.1 hm with rfl | hm
  · exact Nat.lt_irrefl _ (Nat.lt_of_lt_of_le (hlt_of h.dep) hk)
  · exact Nat.lt_irrefl _ (Nat.lt_of_lt_of_le (h.hq.blk_lt _ hm) hk)
theorem lk_w1 {d t : Int} (h : -1 ≤ d∧d ≤ 1000) (k : 0 ≤ t∧t ≤ 100000000) : RowKit.wrap64 (d - t) = d - t:=by unfold RowKit.wrap64; omega
theorem lk_w2 {d t u : Int} (h : -1 ≤ d∧d ≤ 1000) (k : 0 ≤ t∧t ≤ 100000000) (k2 : 0 ≤ u∧u ≤ 1) : RowKit.wrap64 (d - t + u) = d - t + u:=by unfold RowKit.wrap64; omega
theorem lk_w3 {i n : Nat} (h : i < n) (k : n ≤ 40000) : RowKit.wrap64 ((i : Int) + 1) = (i : Int) + 1:=by unfold RowKit.wrap64; omega
theorem lk_len {n : Nat} (k : n ≤ 40000) : n ≤ 1000000:=by omega
theorem lk_q {a b c : Nat} (k : a ≤ 100000) (h : b ≤ 1) (e : c = a + b) : c ≤ 1000000:=by omega
theorem lk_q0 {a : Nat} (k : a ≤ 100000) : a ≤ 1000000:=by omega
theorem vlook_any (tk pu : Ins → Int) (B W0 g1 pb po ib io : Nat) (c : Cod) (p : Prh) (ds : List Int) (lv : Value) (q : List Int) (i : Nat) (x : Ins) (d : Int) (w : World)
    (h : WS w B W0 g1 (.slice c.PB c.ps.length c.pc) (.slice c.CB c.kids.len c.cc) (.slice c.GB c.gs.length c.gc) (.pointer (some ⟨pb,po,none⟩)) ds lv q) (hp : PK w B pb po ib io p)
    (hE : ∀ W,Below w.heap.size w W → Calls Tryz.prog 8 #[insA x,codA c] W fun e w'=>e = .returned (.tuple #[.int .i64 (tk x),.int .i64 (pu x)])∧Below W.heap.size W w')
    (hx : p.code[i]? = some x) (hd : ds[i]? = some d) (hlen : ds.length = p.code.length) (hn : ds.length ≤ 40000) (hq : q.length ≤ 100000)
    (htk : 0 ≤ tk x∧tk x ≤ 100000000) (hpu : 0 ≤ pu x∧pu x ≤ 1) (hdb : -1 ≤ d∧d ≤ 1000) (hj : jumpB x = true → 0 ≤ x.a∧x.a < p.code.length) :
    Calls Tryz.prog 31 #[.pointer (some ⟨W0,0,none⟩),.int .i64 (i : Int)] w fun e w'=>e = .returned (.int .i64 (lookS tk pu p.code p.de i x d ds).1) ∧
      ∃ lv' q',q'.Perm (q ++ (lookS tk pu p.code p.de i x d ds).2.2)∧WS w' B W0 g1 (.slice c.PB c.ps.length c.pc) (.slice c.CB c.kids.len c.cc) (.slice c.GB c.gs.length c.gc) (.pointer (some ⟨pb,po,none⟩)) (lookS tk pu p.code p.de i x d ds).2.1 lv' q'∧Below B w w':=by
  obtain ⟨W1,hW1⟩ : ∃ W1,w.alloc (insO x) = W1:=⟨_,rfl⟩
  have hb1 : Below w.heap.size w W1:=by rw [← hW1]; exact (Below.refl _ w).alloc (Nat.le_refl _) _
  have ho1 : W1.heap[w.heap.size]? = some (insO x):=by rw [← hW1]; unfold World.alloc; simp
  have hil:=(List.getElem?_eq_some_iff.1 hx).1
  have hpB:=hp.hB (Nat.lt_of_le_of_lt (Nat.zero_le _) hil)
  have y3 : w.cell? ⟨W0,3,none⟩ = some (.pointer (some ⟨pb,po,none⟩)):=ob_cell h.hq.blk 3
  have y6 : w.cell? ⟨pb,po + 6,none⟩ = some (.slice (some ⟨ib,io,none⟩) p.code.length p.cap):=by rw [← hpB]; exact hp.p7.c6
  obtain ⟨-,i0,i1,i2⟩:=hp.ins i x hx
  have EF:=Lib.hid (hE W1.drew (by exact hb1.drew))
  have hwB:=h.bw
  have WSW : Hid (∀ W,Below W1.heap.size W1 W → WS W B W0 g1 (.slice c.PB c.ps.length c.pc) (.slice c.CB c.kids.len c.cc) (.slice c.GB c.gs.length c.gc) (.pointer (some ⟨pb,po,none⟩)) ds lv q):=Lib.hid fun W hW=>(h.keep hb1).keep hW
  have PKW : Hid (∀ W,Below B w W → PK W B pb po ib io p):=Lib.hid fun W hW=>hp.keep hW hwB
  have XW : Hid (∀ W,Below W1.heap.size W1 W → I3 W w.heap.size 0 x):=Lib.hid fun W hW=>I3.of_block ((hW.block _ (hlt_of ho1)).trans ho1)
  obtain ⟨n,hnn⟩ : ∃ n,p.code.length = n:=⟨_,rfl⟩
  rw [hnn] at hil y6 hlen hj
  have hcap:=hp.cap
  rw [hnn] at hcap
  have FA : Hid (∀ W,Below W1.heap.size W1 W → W.cell? ⟨W0,4,none⟩ = some (.slice (some ⟨g1,0,none⟩) n n)∧W.cell? ⟨g1,i,none⟩ = some (.int .i64 d)∧W.cell? ⟨W0,3,none⟩ = some (.pointer (some ⟨pb,po,none⟩))∧W.cell? ⟨pb,po + 4,none⟩ = some (.int .i64 p.de)∧W.cell? ⟨pb,po + 6,none⟩ = some (.slice (some ⟨ib,io,none⟩) n p.cap)):=Lib.hid fun W hW=>by
    have k:=WSW.out W hW
    have kp:=PKW.out W ((hb1.mono hwB).trans (hW.mono (Nat.le_trans hwB hb1.size)))
    have e6:=kp.p7.c6
    rw [hpB,hnn] at e6
    have e4:=ob_cell k.hq.blk 4
    rw [hlen] at e4
    exact ⟨e4,(k.dcell hd).1,ob_cell k.hq.blk 3,kp.p7.c4,e6⟩
  have FIN : Hid (∀ W lv' q' D N,Below W1.heap.size W1 W → q'.Perm (q ++ N) → WS W B W0 g1 (.slice c.PB c.ps.length c.pc) (.slice c.CB c.kids.len c.cc) (.slice c.GB c.gs.length c.gc) (.pointer (some ⟨pb,po,none⟩)) D lv' q' → ∃ lv' q',q'.Perm (q ++ N)∧WS W B W0 g1 (.slice c.PB c.ps.length c.pc) (.slice c.CB c.kids.len c.cc) (.slice c.GB c.gs.length c.gc) (.pointer (some ⟨pb,po,none⟩)) D lv' q'∧Below B w W):=Lib.hid fun W lv' q' D N hW k1 k2=>⟨lv',q',k1,k2,(hb1.mono hwB).trans (hW.mono (Nat.le_trans hwB hb1.size))⟩
  have FIN2 : Hid (∀ W W' lv' q' D N,Below W1.heap.size W1 W → Below B W W' → q'.Perm (q ++ N) → WS W' B W0 g1 (.slice c.PB c.ps.length c.pc) (.slice c.CB c.kids.len c.cc) (.slice c.GB c.gs.length c.gc) (.pointer (some ⟨pb,po,none⟩)) D lv' q' → ∃ lv' q',q'.Perm (q ++ N)∧WS W' B W0 g1 (.slice c.PB c.ps.length c.pc) (.slice c.CB c.kids.len c.cc) (.slice c.GB c.gs.length c.gc) (.pointer (some ⟨pb,po,none⟩)) D lv' q'∧Below B w W'):=Lib.hid fun W W' lv' q' D N hW hW' k1 k2=>⟨lv',q',k1,k2,((hb1.mono hwB).trans (hW.mono (Nat.le_trans hwB hb1.size))).trans hW'⟩
  have HW1:=Lib.hid hW1
  obtain ⟨t,ht⟩ : ∃ t,tk x = t:=⟨_,rfl⟩
  obtain ⟨u,hu⟩ : ∃ u,pu x = u:=⟨_,rfl⟩
  obtain ⟨R,hR⟩ : ∃ R,lookS tk pu p.code p.de i x d ds = R:=⟨_,rfl⟩
  rw [hR]
  have w1 : RowKit.wrap64 (d - t) = d - t:=lk_w1 hdb (ht ▸ htk)
  have w2 : RowKit.wrap64 (d - t + u) = d - t + u:=lk_w2 hdb (ht ▸ htk) (hu ▸ hpu)
  have w3 : RowKit.wrap64 ((i : Int) + 1) = (i : Int) + 1:=lk_w3 hil (hlen ▸ hn)
  have a1 : (0 : Int) ≤ (i : Int):=Int.natCast_nonneg i
  have a2 : (i : Int) < (n : Int):=Int.ofNat_lt.2 hil
  have a3 : (n : Int) ≤ (p.cap : Int):=Int.ofNat_le.2 hcap.1
  have a4 : (p.cap : Int) ≤ 9223372036854775807:=by have:=hcap.2; omega
  have a5 : (n : Int) ≤ 9223372036854775807:=Int.le_trans a3 a4
  have C1 : Hid (i + 1 < n → ∀ W,Below W1.heap.size W1 W → Calls Tryz.prog 28 #[.pointer (some ⟨W0,0,none⟩),.int .i64 ((i : Int) + 1),.int .i64 (d - t + u)] W fun e w'=>e = .returned (.bool (comS ds (i + 1) (d - t + u)).1)∧∃ lv' q',q'.Perm (q ++ (comS ds (i + 1) (d - t + u)).2.2)∧WS w' B W0 g1 (.slice c.PB c.ps.length c.pc) (.slice c.CB c.kids.len c.cc) (.slice c.GB c.gs.length c.gc) (.pointer (some ⟨pb,po,none⟩)) (comS ds (i + 1) (d - t + u)).2.1 lv' q'∧Below B W w'∧w'.heap[w.heap.size]? = some (insO x)):=Lib.hid fun hi W hW=>by
    refine (vcome_any B W0 g1 _ _ _ _ ds lv q (i + 1) (d - t + u) W (WSW.out W hW) (hlen ▸ hi) (lk_len hn) (lk_q0 hq)).mono ?_
    rintro e w' ⟨k1,lv',q',k2,k3,k4,k5⟩
    have hoW:=(hW.block _ (hlt_of ho1)).trans ho1
    exact ⟨k1,lv',q',k2,k3,k4,(k5.keep _ (hlt_of hoW) (h.notin (Nat.le_refl _))).trans hoW⟩
  have C2 : Hid (∀ (D N : List Int) (q2 : List Int) (lv2 : Value) (m : Nat),m < n → D.length = n → N.length ≤ 1 → q2.Perm (q ++ N) → ∀ W,WS W B W0 g1 (.slice c.PB c.ps.length c.pc) (.slice c.CB c.kids.len c.cc) (.slice c.GB c.gs.length c.gc) (.pointer (some ⟨pb,po,none⟩)) D lv2 q2 → Calls Tryz.prog 28 #[.pointer (some ⟨W0,0,none⟩),.int .i64 (m : Int),.int .i64 (d - t + u)] W fun e w'=>e = .returned (.bool (comS D m (d - t + u)).1)∧∃ lv' q',q'.Perm (q ++ (N ++ (comS D m (d - t + u)).2.2))∧WS w' B W0 g1 (.slice c.PB c.ps.length c.pc) (.slice c.CB c.kids.len c.cc) (.slice c.GB c.gs.length c.gc) (.pointer (some ⟨pb,po,none⟩)) (comS D m (d - t + u)).2.1 lv' q'∧Below B W w'):=Lib.hid fun D N q2 lv2 m hm hD hN hq2 W hW=>by
    refine (vcome_any B W0 g1 _ _ _ _ D lv2 q2 m (d - t + u) W hW (hD ▸ hm) (lk_len (hD ▸ hlen ▸ hn)) (lk_q hq hN (by rw [hq2.length_eq,List.length_append]))).mono ?_
    rintro e w' ⟨k1,lv',q',k2,k3,k4,-⟩
    exact ⟨k1,lv',q',by rw [← List.append_assoc]; exact k2.trans (hq2.append_right _),k3,k4⟩
  have GO : Hid (∀ W,Calls Tryz.prog 48 #[insA x] W fun e w'=>e = .returned (.bool (goesB x))∧Below W.heap.size W w'):=Lib.hid fun W=>vgoes_any x W
  have JU : Hid (∀ W,Calls Tryz.prog 49 #[insA x] W fun e w'=>e = .returned (.bool (jumpB x))∧Below W.heap.size W w'):=Lib.hid fun W=>vjumps_any x W
  have HLEN:=Lib.hid hlen
  have HJ:=Lib.hid hj
  have HIL:=Lib.hid hil
  have HNN:=Lib.hid hnn
  have HT:=Lib.hid ht
  have HU:=Lib.hid hu
  have HR:=Lib.hid hR
  rw [ht,hu] at EF
  clear h hp hE hx hd hlen hn hq htk hpu hdb hj hb1 hW1 ho1 hil hpB hnn hcap ht hu hR hwB PKW
  go_enter Tryz.func31,Tryz.ntmps31
  go_upto_region 2 with (fail)
  rw [HW1.out]
  go_cut [6,7] (fun a b wx=>a = .int .i64 t∧b = .int .i64 u∧Hid (Below W1.heap.size W1 wx))
  case first =>
    obtain ⟨x0,x1,x2⟩:=XW.out W1 (Below.refl _ _)
    simp only [Nat.zero_add] at x0 x1 x2
    have k0:=ob_cell (WSW.out W1 (Below.refl _ _)).hq.blk
    have z0 : W1.cell? ⟨W0,0,none⟩ = some (.slice c.PB c.ps.length c.pc):=k0 0
    have z1 : W1.cell? ⟨W0,1,none⟩ = some (.slice c.CB c.kids.len c.cc):=k0 1
    have z2 : W1.cell? ⟨W0,2,none⟩ = some (.slice c.GB c.gs.length c.gc):=k0 2
    clear k0
    go_region_with (go_at_call 8; refine EF.out.mono ?_; rintro e v2 ⟨rfl,hb2⟩; have HB2:=Lib.hid (bel_trans (B:=W1.heap.size) ((Below.refl _ W1).drew) hb2); clear hb2)
    all_goals
      go_wp2_with (fail)
      go_meet
      exact ⟨rfl,rfl,HB2⟩
  case rest =>
    obtain ⟨rfl,rfl,HB2⟩:=hcut
    obtain ⟨f4,fd,f3,fde,f6⟩:=FA.out wc HB2.out
    obtain ⟨x0,x1,x2⟩:=XW.out wc HB2.out
    simp only [Nat.zero_add] at x0 x1 x2
    by_cases c1 : d - t < 0
    · have b1 : decide (d - t < 0) = true:=decide_eq_true c1
      have RR : Hid (R = (113,ds,[])):=Lib.hid (by rw [← HR.out]; exact lookS_a (.inl (by rw [HT.out]; exact c1)))
      clear HR c1
      go_wp2_with (fail)
      go_ret
      rw [RR.out]
      exact ⟨rfl,FIN.out _ lv q _ _ HB2.out (by simp) (WSW.out _ HB2.out)⟩
    have b1 : decide (d - t < 0) = false:=decide_eq_false c1
    by_cases c2 : p.de < d - t + u
    · have b2 : decide (p.de < d - t + u) = true:=decide_eq_true c2
      have RR : Hid (R = (113,ds,[])):=Lib.hid (by rw [← HR.out]; exact lookS_a (.inr (by rw [HT.out,HU.out]; exact c2)))
      clear HR c1 c2
      go_wp2_with (fail)
      go_ret
      rw [RR.out]
      exact ⟨rfl,FIN.out _ lv q _ _ HB2.out (by simp) (WSW.out _ HB2.out)⟩
    have b2 : decide (p.de < d - t + u) = false:=decide_eq_false c2
    have C12 : Hid (¬(d - tk x < 0 ∨ p.de < d - tk x + pu x)):=Lib.hid (by rw [HT.out,HU.out]; rintro (h | h); exact c1 h; exact c2 h)
    clear c1 c2
    rcases (show goesB x = true ∨ goesB x = false by cases goesB x <;> simp) with hg | hg
    · rw [hg] at GO
      by_cases c3 : i + 1 = n
      · have b3 : ((i : Int) + 1 == (n : Int)) = true:=by rw [← c3]; simp
        have RR : Hid (R = (114,ds,[])):=Lib.hid (by rw [← HR.out]; exact lookS_b C12.out hg (by rw [HNN.out]; exact c3))
        clear HR c3 hg
        go_wp2_with (fail)
        refine (GO.out _).mono ?_
        rintro e w3 ⟨rfl,hb3⟩
        have HB3:=Lib.hid (bel_trans (B:=W1.heap.size) HB2.out hb3)
        clear hb3
        obtain ⟨f4,fd,f3,fde,f6⟩:=FA.out w3 HB3.out
        go_wp2_with (fail)
        go_ret
        rw [RR.out]
        exact ⟨rfl,FIN.out _ lv q _ _ HB3.out (by simp) (WSW.out _ HB3.out)⟩
      have b3 : ((i : Int) + 1 == (n : Int)) = false:=beq_eq_false_iff_ne.2 (fun h=>c3 (by omega))
      have I1:=Lib.hid (show i + 1 < n from Nat.lt_of_le_of_ne HIL.out c3)
      have N3:=Lib.hid (show ¬ i + 1 = p.code.length from fun h=>c3 (h.trans HNN.out))
      have C1':=Lib.hid (C1.out I1.out)
      have SL : Hid ((comS ds (i + 1) (d - t + u)).2.1.length = n∧(comS ds (i + 1) (d - t + u)).2.2.length ≤ 1):=Lib.hid ⟨(com_len _ _ _).trans HLEN.out,com_one _ _ _⟩
      obtain ⟨S,hS⟩ : ∃ S,comS ds (i + 1) (d - t + u) = S:=⟨_,rfl⟩
      rw [hS] at C1' SL
      obtain ⟨S1,S2,S3⟩:=S
      dsimp only at C1' SL
      have HS:=Lib.hid (show comS ds (i + 1) (d - tk x + pu x) = (S1,S2,S3) by rw [HT.out,HU.out]; exact hS)
      have HG:=Lib.hid hg
      clear c3 C1 hS hg
      cases S1 with
      | false =>
        have RR : Hid (R = (113,S2,S3)):=Lib.hid (by rw [← HR.out]; exact lookS_c C12.out HG.out N3.out HS.out rfl)
        clear HR
        go_wp2_with (fail)
        refine (GO.out _).mono ?_
        rintro e w3 ⟨rfl,hb3⟩
        have HB3:=Lib.hid (bel_trans (B:=W1.heap.size) HB2.out hb3)
        clear hb3
        obtain ⟨f4,fd,f3,fde,f6⟩:=FA.out w3 HB3.out
        obtain ⟨x0,x1,x2⟩:=XW.out w3 HB3.out
        simp only [Nat.zero_add] at x0 x1 x2
        go_wp2_with (fail)
        refine (GO.out _).mono ?_
        rintro e w4 ⟨rfl,hb4⟩
        have HB4:=Lib.hid (bel_trans (B:=W1.heap.size) HB3.out hb4)
        clear hb4
        go_wp2_with (fail)
        refine (C1'.out _ HB4.out).mono ?_
        rintro e w5 ⟨rfl,lv5,q5,k2,k3,k4,-⟩
        have FF:=Lib.hid (FIN2.out _ _ _ _ _ _ HB4.out k4 k2 k3)
        clear k2 k3 k4
        go_wp2_with (fail)
        go_ret
        rw [RR.out]
        exact ⟨rfl,FF.out⟩
      | true =>
        go_wp2_with (fail)
        refine (GO.out _).mono ?_
        rintro e w3 ⟨rfl,hb3⟩
        have HB3:=Lib.hid (bel_trans (B:=W1.heap.size) HB2.out hb3)
        clear hb3
        obtain ⟨f4,fd,f3,fde,f6⟩:=FA.out w3 HB3.out
        obtain ⟨x0,x1,x2⟩:=XW.out w3 HB3.out
        simp only [Nat.zero_add] at x0 x1 x2
        go_wp2_with (fail)
        refine (GO.out _).mono ?_
        rintro e w4 ⟨rfl,hb4⟩
        have HB4:=Lib.hid (bel_trans (B:=W1.heap.size) HB3.out hb4)
        clear hb4
        go_wp2_with (fail)
        refine (C1'.out _ HB4.out).mono ?_
        rintro e w5 ⟨rfl,lv5,q5,k2,k3,k4,k5⟩
        obtain ⟨x0,x1,x2⟩:=I3.of_block k5
        simp only [Nat.zero_add] at x0 x1 x2
        have K2:=Lib.hid k2
        have K3:=Lib.hid k3
        have K4:=Lib.hid k4
        have K5:=Lib.hid k5
        clear k2 k3 k4 k5
        rcases (show jumpB x = true ∨ jumpB x = false by cases jumpB x <;> simp) with hjj | hjj
        · rw [hjj] at JU
          obtain ⟨m,hm⟩ : ∃ m : Nat,x.a = (m : Int):=⟨x.a.toNat,(Int.toNat_of_nonneg (HJ.out hjj).1).symm⟩
          have hmn : m < n:=by have:=(HJ.out hjj).2; rw [hm] at this; exact Int.ofNat_lt.1 this
          have C2':=Lib.hid (C2.out S2 S3 q5 lv5 m hmn SL.out.1 SL.out.2 K2.out)
          obtain ⟨T,hT⟩ : ∃ T,comS S2 m (d - t + u) = T:=⟨_,rfl⟩
          rw [hT] at C2'
          obtain ⟨T1,T2,T3⟩:=T
          dsimp only at C2'
          have RR : Hid (R = (if T1 then 0 else 113,T2,S3 ++ T3)):=Lib.hid (by rw [← HR.out]; exact lookS_e (T:=(T1,T2,T3)) C12.out HG.out N3.out HS.out rfl hjj hm (by rw [HT.out,HU.out]; exact hT))
          have HM:=Lib.hid hm
          clear HR C2 C1' hT hm hmn hjj
          go_wp2_with (fail)
          refine (JU.out _).mono ?_
          rintro e w6 ⟨rfl,hb6⟩
          have HB6:=Lib.hid hb6
          have hx6:=I3.of_block ((HB6.out.block _ (hlt_of K5.out)).trans K5.out)
          clear hb6
          obtain ⟨x0,x1,x2⟩:=hx6
          simp only [Nat.zero_add] at x0 x1 x2
          rw [HM.out] at x1
          go_wp2_with (fail)
          refine (C2'.out _ (K3.out.keep HB6.out)).mono ?_
          rintro e w7 ⟨rfl,lv7,q7,j2,j3,j4⟩
          have FF:=Lib.hid (FIN2.out _ _ _ _ _ _ HB4.out ((K4.out.trans (HB6.out.mono K3.out.bw)).trans j4) j2 j3)
          clear j2 j3 j4
          cases T1
          · go_wp2_with (fail)
            go_ret
            rw [RR.out]
            exact ⟨rfl,FF.out⟩
          · go_wp2_with (fail)
            go_ret
            rw [RR.out]
            exact ⟨rfl,FF.out⟩
        · rw [hjj] at JU
          have RR : Hid (R = (0,S2,S3)):=Lib.hid (by rw [← HR.out]; exact lookS_d C12.out HG.out N3.out HS.out rfl hjj)
          clear HR C2 C1' hjj
          go_wp2_with (fail)
          refine (JU.out _).mono ?_
          rintro e w6 ⟨rfl,hb6⟩
          have FF:=Lib.hid (FIN2.out _ _ _ _ _ _ HB4.out (K4.out.trans (hb6.mono K3.out.bw)) K2.out (K3.out.keep hb6))
          clear hb6
          go_wp2_with (fail)
          go_ret
          rw [RR.out]
          exact ⟨rfl,FF.out⟩
    · rw [hg] at GO
      have HG:=Lib.hid hg
      clear hg
      go_wp2_with (fail)
      refine (GO.out _).mono ?_
      rintro e w3 ⟨rfl,hb3⟩
      have HB3:=Lib.hid (bel_trans (B:=W1.heap.size) HB2.out hb3)
      clear hb3
      obtain ⟨x0,x1,x2⟩:=XW.out w3 HB3.out
      simp only [Nat.zero_add] at x0 x1 x2
      go_wp2_with (fail)
      refine (GO.out _).mono ?_
      rintro e w4 ⟨rfl,hb4⟩
      have HB4:=Lib.hid (bel_trans (B:=W1.heap.size) HB3.out hb4)
      clear hb4
      obtain ⟨x0,x1,x2⟩:=XW.out w4 HB4.out
      simp only [Nat.zero_add] at x0 x1 x2
      rcases (show jumpB x = true ∨ jumpB x = false by cases jumpB x <;> simp) with hjj | hjj
      · rw [hjj] at JU
        obtain ⟨m,hm⟩ : ∃ m : Nat,x.a = (m : Int):=⟨x.a.toNat,(Int.toNat_of_nonneg (HJ.out hjj).1).symm⟩
        have hmn : m < n:=by have:=(HJ.out hjj).2; rw [hm] at this; exact Int.ofNat_lt.1 this
        have C2':=Lib.hid (C2.out ds [] q lv m hmn HLEN.out (by simp) (by simp))
        obtain ⟨T,hT⟩ : ∃ T,comS ds m (d - t + u) = T:=⟨_,rfl⟩
        rw [hT] at C2'
        obtain ⟨T1,T2,T3⟩:=T
        dsimp only [List.nil_append] at C2'
        have RR : Hid (R = (if T1 then 0 else 113,T2,T3)):=Lib.hid (by rw [← HR.out]; exact lookS_g (T:=(T1,T2,T3)) C12.out HG.out hjj hm (by rw [HT.out,HU.out]; exact hT))
        have HM:=Lib.hid hm
        clear HR C2 C1 hT hm hmn hjj
        go_wp2_with (fail)
        refine (JU.out _).mono ?_
        rintro e w6 ⟨rfl,hb6⟩
        have HB6:=Lib.hid (bel_trans (B:=W1.heap.size) HB4.out hb6)
        clear hb6
        obtain ⟨x0,x1,x2⟩:=XW.out w6 HB6.out
        simp only [Nat.zero_add] at x0 x1 x2
        rw [HM.out] at x1
        go_wp2_with (fail)
        refine (C2'.out _ (WSW.out _ HB6.out)).mono ?_
        rintro e w7 ⟨rfl,lv7,q7,j2,j3,j4⟩
        have FF:=Lib.hid (FIN2.out _ _ _ _ _ _ HB6.out j4 j2 j3)
        clear j2 j3 j4
        cases T1
        · go_wp2_with (fail)
          go_ret
          rw [RR.out]
          exact ⟨rfl,FF.out⟩
        · go_wp2_with (fail)
          go_ret
          rw [RR.out]
          exact ⟨rfl,FF.out⟩
      · rw [hjj] at JU
        have RR : Hid (R = (0,ds,[])):=Lib.hid (by rw [← HR.out]; exact lookS_f C12.out HG.out hjj)
        clear HR C2 C1 hjj
        go_wp2_with (fail)
        refine (JU.out _).mono ?_
        rintro e w6 ⟨rfl,hb6⟩
        have HB6:=Lib.hid (bel_trans (B:=W1.heap.size) HB4.out hb6)
        clear hb6
        go_wp2_with (fail)
        go_ret
        rw [RR.out]
        exact ⟨rfl,FIN.out _ lv q _ _ HB6.out (by simp) (WSW.out _ HB6.out)⟩
end LM
namespace LM
def rpn (k : Nat) : List Value:=List.replicate k (.int .i64 (-1))
theorem rpn_len (k : Nat) : (rpn k).length = k:=List.length_replicate ..
def rp (n h : Nat) : List Value:=List.replicate h (.int .i64 (-1)) ++ List.replicate (n - h) (.int .i64 0)
theorem addr_addV (b off j : Nat) : Addr.add ⟨b,off,none⟩ j = ⟨b,off + j,none⟩:=by unfold Addr.add; split <;> simp_all
theorem rp_len {n h : Nat} (k : h ≤ n) : (rp n h).length = n:=by simp [rp]; omega
theorem rp_zero (n : Nat) : (madeCells #[Value.int .i64 0] n) = (rp n 0).toArray:=by
  apply Array.ext <;> simp [madeCells,rp,Nat.mod_one]
theorem rp_full (n : Nat) : rp n n = ivs (List.replicate n (-1)):=by simp [rp,ivs]
theorem rp_splice {n h k : Nat} (hk : h + k ≤ n) : splice (rp n h) h (rpn k) = rp n (h + k):=by
  unfold splice rp rpn
  rw [List.take_left' (by simp),List.length_replicate,← List.drop_drop,List.drop_left' (by simp),List.drop_replicate,← List.append_assoc,List.replicate_append_replicate,Nat.sub_sub]
theorem rp_get {n h j : Nat} (hj : j < h) (hn : h ≤ n) : (rp n h)[j]? = some (.int .i64 (-1)):=by
  unfold rp
  rw [List.getElem?_append_left (by simpa using hj)]
  simp [hj]
theorem rp_cell {w : World} {g n h j : Nat} {v : Value} {k : Nat} (hw : w.heap[g]? = some (.cells (rp n h).toArray 3 (0,0))) (hn : h ≤ n) (hk : k ≤ h) (hv : (rpn k)[j]? = some v) : w.cell? ⟨g,j,none⟩ = some v:=by
  unfold rpn at hv
  have hj : j < k:=by
    rcases Nat.lt_or_ge j k with h | h
    · exact h
    · rw [List.getElem?_eq_none (by simpa using h)] at hv; cases hv
  rw [ob_cell hw]
  rw [List.getElem?_eq_getElem (by simpa using hj),List.getElem_replicate] at hv
  injection hv with hv
  subst hv
  simpa using rp_get (Nat.lt_of_lt_of_le hj hk) hn
theorem rp_src {w : World} {gx j : Nat} {v : Value} (hw : w.heap[gx]? = some (.cells #[.int .i64 (-1)] 3 (0,0))) (hv : (rpn 1)[j]? = some v) : w.cell? ⟨gx,j,none⟩ = some v:=by
  unfold rpn at hv
  cases j with
  | zero =>
    injection hv with hv
    subst hv
    rw [ob_cell hw]
    rfl
  | succ j=>simp at hv
theorem rp_one {k : Nat} : ∀ v ∈ rpn k,v.oneCell' = true:=by
  intro v hv
  unfold rpn at hv
  rw [List.eq_of_mem_replicate hv]
  rfl
theorem rp_min {n h : Nat} (hl : h < n) (h0 : 0 < h) : ∃ k,k = min h (n - h)∧k ≤ h∧h + k ≤ n∧0 < k:=⟨_,rfl,by omega,by omega,by omega⟩
theorem rp_min1 {n : Nat} (h : 0 < n) : 1 = min 1 n:=by omega
theorem rp_w {a b : Nat} (h : a + b ≤ 40000) : RowKit.wrap64 ((a : Int) + (b : Int)) = ((a + b : Nat) : Int):=by unfold RowKit.wrap64; omega
theorem rp_i {n : Nat} (h : n ≤ 40000) : IntKind.i64.wrap (n : Int) = (n : Int):=by rw [IntKind.wrap_i64]; omega
theorem rp_u {n : Nat} (h : n ≤ 40000) : IntKind.u64.wrap (n : Int) = (n : Int):=by rw [IntKind.wrap_u64]; omega
theorem int_sizeV : (Tryz.prog.info? 3).map (·.size) = some 1:=by kernel_rfl
theorem vrepeat_any (gx n : Nat) (w : World) (hx : w.heap[gx]? = some (.cells #[.int .i64 (-1)] 3 (0,0))) (hn0 : 0 < n) (hn : n ≤ 40000)
    (hM : ∀ W,Calls Tryz.prog 45 #[.int .u64 1,.int .u64 (n : Int)] W fun e w'=>e = .returned (.tuple #[.int .u64 0,.int .u64 (n : Int)])∧W = w') :
    Calls Tryz.prog 27 #[.slice (some ⟨gx,0,none⟩) 1 1,.int .i64 (n : Int)] w fun e w'=>e = .returned (.slice (some ⟨w.heap.size,0,none⟩) n n)∧w'.heap[w.heap.size]? = some (.cells (ivs (List.replicate n (-1))).toArray 3 (0,0))∧Below w.heap.size w w':=by
  have hmk:=fun W=>run_make_row' (P:=Tryz.prog) 36 3 (.int .i64 0) 8 Tryz.underlying36 int_infoB rfl .i64 .i64 n (by omega) (by omega) W
  simp only [rp_zero] at hmk
  obtain ⟨W1,hW1⟩ : ∃ W1,w.alloc (.cells (rp n 0).toArray 3 (0,0)) = W1:=⟨_,rfl⟩
  have HM:=Lib.hid hM
  have HX:=Lib.hid hx
  have HB1 : Hid (Below w.heap.size w W1):=Lib.hid (by rw [← hW1]; exact (Below.refl _ w).alloc (Nat.le_refl _) _)
  have HO1 : Hid (W1.heap[w.heap.size]? = some (.cells (rp n 0).toArray 3 (0,0))):=Lib.hid (by rw [← hW1]; unfold World.alloc; simp)
  have HW1:=Lib.hid hW1
  have u1 : IntKind.u64.wrap (n : Int) = (n : Int):=rp_u hn
  have u2 : IntKind.i64.wrap (n : Int) = (n : Int):=rp_i hn
  have e0 : decide ((9223372036854775807 : Int) < (n : Int)) = false:=decide_eq_false (by omega)
  have d1 : decide ((n : Int) < 0) = false:=decide_eq_false (by omega)
  have HN:=Lib.hid hn
  have HN0:=Lib.hid hn0
  clear hM hx hW1 hn hn0
  go_enter Tryz.func27,Tryz.ntmps27
  go_wp2_with (fail)
  refine (HM.out _).mono ?_
  rintro e w' ⟨rfl,rfl⟩
  go_wp2_with (with_reducible refine wpList_copy_splice rfl (.tmp 31) (.tmp 32) 36 36 rfl 3 Tryz.underlying36 int_sizeV (some ⟨w.heap.size,0,none⟩) (some ⟨gx,0,none⟩) n n 1 1 rfl rfl w.heap.size 0 (rp n 0) 3 ?c1 (rpn 1) ?c2 ?c3 ?c4 ?c5 w.heap.size w ?c6 (Nat.le_refl _) ?_)
  case c1=>unfold World.alloc; simp
  case c2=>rw [rpn_len]; exact rp_min1 HN0.out
  case c3 =>
    have SRC : ∀ j v,(rpn 1)[j]? = some v → (w.alloc (.cells (rp n 0).toArray 3 (0,0))).cell? ⟨gx,j,none⟩ = some v:=fun j v hv=>rp_src ((((Below.refl _ w).alloc (Nat.le_refl _) _).block gx (hlt_of HX.out)).trans HX.out) hv
    intro hl
    first
      | exact ⟨rfl,_,rfl,fun j v hv=>by rw [addr_addV,Nat.zero_add]; exact SRC j v hv⟩
      | exact fun j v hv=>by rw [addr_addV,Nat.zero_add]; exact SRC j v hv
      | exact fun j v hv=>SRC j v hv
  case c4=>rw [rpn_len,rp_len (Nat.zero_le _)]; exact Nat.le_trans (by decide) HN0.out
  case c5=>exact rp_one
  case c6=>exact (Below.refl _ _).alloc (Nat.le_refl _) _
  intro w2 HG2 hb2
  have HB2:=Lib.hid hb2
  have G1 : Hid (w2.heap[w.heap.size]? = some (.cells (rp n 1).toArray 3 (0,0))):=Lib.hid (by rw [HG2.out,rp_splice (by have:=HN0.out; omega)])
  clear HG2 hb2
  obtain ⟨g,hg⟩ : ∃ g,w.heap.size = g:=⟨_,rfl⟩
  rw [hg] at G1 ⊢
  have HGG:=Lib.hid hg
  clear hg
  go_wp2_with (fail)
  go_loopg [8] (n - 1) (fun kk jv wr=>∃ h : Nat,jv = .int .i64 (h : Int)∧kk = n - h∧0 < h∧h ≤ n∧Hid (wr.heap[g]? = some (.cells (rp n h).toArray 3 (0,0)))∧Hid (Below g w wr))
  case atStart=>exact ⟨1,rfl,by omega,by decide,HN0.out,G1,Lib.hid (HGG.out ▸ HB2.out)⟩
  case round =>
    obtain ⟨h,rfl,hk,h0,hh,HO,HB⟩:=hrel
    by_cases hl : h < n
    · have b1 : decide (h < n) = true:=decide_eq_true hl
      obtain ⟨k,hkm,hkh,hkn,hk0⟩:=rp_min hl h0
      have hw : RowKit.wrap64 ((h : Int) + (k : Int)) = ((h + k : Nat) : Int):=rp_w (Nat.le_trans hkn HN.out)
      have e2 : IntKind.i64.wrap ((h : Int) + ((rpn k).length : Int)) = ((h + k : Nat) : Int):=by rw [rpn_len]; rw [IntKind.wrap_i64]; have:=Nat.le_trans hkn HN.out; omega
      have a1 : (0 : Int) ≤ (h : Int):=Int.natCast_nonneg h
      have a2 : (h : Int) ≤ (n : Int):=Int.ofNat_le.2 hh
      have a3 : (n : Int) ≤ (n : Int):=Int.le_refl _
      have HH:=Lib.hid (And.intro hk (And.intro h0 (And.intro hkn (And.intro hk0 (And.intro hkm hkh)))))
      have ne : ¬ n = h:=fun h9=>absurd hl (by rw [h9]; exact Nat.lt_irrefl _)
      have HOD : Hid (wr.drew.heap[g]? = some (.cells (rp n h).toArray 3 (0,0))):=Lib.hid HO.out
      have HBD : Hid (Below g w wr.drew):=Lib.hid HB.out.drew
      have HL:=Lib.hid hl
      clear hk h0 hkn hk0 hkm hkh hl hh
      go_wp2_with (fail)
      have QC2 : (rpn k).length = Nat.min h (n - h):=by rw [rpn_len,HH.out.2.2.2.2.1]
      have QS : ∀ j v,(rpn k)[j]? = some v → wr.drew.cell? (Addr.add ⟨g,0,none⟩ j) = some v:=fun j v hv=>by rw [addr_addV,Nat.zero_add]; exact rp_cell HOD.out (by have:=HL.out; omega) HH.out.2.2.2.2.2 hv
      have QF : h + (rpn k).length ≤ (rp n h).length:=by rw [rpn_len,rp_len (by have:=HL.out; omega)]; exact HH.out.2.2.1
      have GC:=Lib.hid (And.intro QC2 (And.intro QS QF))
      clear QC2 QS QF
      go_region_law (refine step_copy_splice rfl (.tmp 41) (.tmp 44) 36 36 rfl 3 Tryz.underlying36 int_sizeV (some ⟨g,h,none⟩) (some ⟨g,0,none⟩) (n - h) (n - h) h n (by simp [Act.eval,Act.put]) (by simp [Act.eval,Act.put]) g h (rp n h) 3 HOD.out (rpn k) GC.out.1 (fun _=>⟨rfl,⟨g,0,none⟩,rfl,GC.out.2.1⟩) GC.out.2.2 rp_one g w HBD.out (Nat.le_refl _) ?_; intro w3 hg3 hb3; have HO3 : Hid (w3.heap[g]? = some (.cells (rp n (h + k)).toArray 3 (0,0))):=Lib.hid (by rw [hg3.out,rp_splice HH.out.2.2.1]); have HB3:=Lib.hid hb3; clear hg3 hb3)
      go_wp2_with (fail)
      go_roundg (n - (h + k))
      case measure=>have:=HH.out; have:=HL.out; omega
      case rel=>exact ⟨h + k,rfl,rfl,by have:=HH.out; omega,HH.out.2.2.1,HO3,HB3⟩
    · have b1 : decide (h < n) = false:=decide_eq_false hl
      have hhn : h = n:=Nat.le_antisymm hh (Nat.le_of_not_lt hl)
      have RR : Hid (wr.heap[g]? = some (.cells (ivs (List.replicate n (-1))).toArray 3 (0,0))):=Lib.hid (by rw [HO.out,hhn,rp_full])
      clear hk h0 hh hl hhn HO
      go_wp2_with (fail)
      go_ret
      exact ⟨by rw [HGG.out]; rfl,by rw [HGG.out]; exact RR.out,by rw [HGG.out]; exact HB.out⟩
end LM
namespace LM
theorem com_cnt {ds : List Int} {i : Nat} {d : Int} (h : d ≠ -1) : (comS ds i d).2.1.count (-1) + (comS ds i d).2.2.length = ds.count (-1):=by
  unfold comS
  split
  · rename_i hi
    have hl:=(List.getElem?_eq_some_iff.1 hi).1
    have hv:=(List.getElem?_eq_some_iff.1 hi).2
    have hm : (-1 : Int) ∈ ds:=List.mem_of_getElem? hi
    have hc : 0 < ds.count (-1):=List.count_pos_iff.2 hm
    rw [List.count_set hl,hv]
    have hb : (d == -1) = false:=beq_eq_false_iff_ne.2 h
    simp [hb]
    omega
  · simp
structure WI (n : Nat) (de : Int) (ds q : List Int) : Prop where
  len : ds.length = n
  dep : ∀ d ∈ ds,-1 ≤ d∧d ≤ de
  wait : ∀ x ∈ q,0 ≤ x∧x < (n : Int)
  cnt : ds.count (-1) + q.length ≤ n
theorem com_wi {n : Nat} {de : Int} {ds q : List Int} (h : WI n de ds q) {i : Nat} {d : Int} (hi : i < n) (h0 : 0 ≤ d) (h1 : d ≤ de) : WI n de (comS ds i d).2.1 (q ++ (comS ds i d).2.2):=by
  have hc:=com_cnt (ds:=ds) (i:=i) (d:=d) (by omega)
  refine ⟨by rw [com_len]; exact h.len,?_,?_,?_⟩
  · intro x hx
    unfold comS at hx
    split at hx
    · rcases List.mem_or_eq_of_mem_set hx with hx | rfl
      · exact h.dep x hx
      · omega
    · exact h.dep x hx
  · intro x hx
    rcases List.mem_append.1 hx with hx | hx
    · exact h.wait x hx
    · unfold comS at hx
      split at hx
      · simp only [List.mem_singleton] at hx
        subst hx
        omega
      · cases hx
  · rw [List.length_append]
    have:=h.cnt
    omega
theorem look_wi {tk pu : Ins → Int} {code : List Ins} {de : Int} {i : Nat} {x : Ins} {d : Int} {ds q : List Int} (h : WI code.length de ds q) (hi : i < code.length) (hp : 0 ≤ pu x) (hj : jumpB x = true → 0 ≤ x.a∧x.a < code.length) :
    WI code.length de (lookS tk pu code de i x d ds).2.1 (q ++ (lookS tk pu code de i x d ds).2.2):=by
  by_cases h1 : d - tk x < 0 ∨ de < d - tk x + pu x
  · rw [lookS_a h1]; simpa using h
  have h2 : 0 ≤ d - tk x + pu x:=by omega
  have h3 : d - tk x + pu x ≤ de:=by omega
  rcases (show goesB x = true ∨ goesB x = false by cases goesB x <;> simp) with hg | hg
  · by_cases he : i + 1 = code.length
    · rw [lookS_b h1 hg he]; simpa using h
    have hc:=com_wi h (i:=i + 1) (by omega) h2 h3
    obtain ⟨S,hS⟩ : ∃ S,comS ds (i + 1) (d - tk x + pu x) = S:=⟨_,rfl⟩
    rw [hS] at hc
    rcases (show S.1 = true ∨ S.1 = false by cases S.1 <;> simp) with hb | hb
    · rcases (show jumpB x = true ∨ jumpB x = false by cases jumpB x <;> simp) with hjj | hjj
      · have ha:=hj hjj
        have hm : x.a = (x.a.toNat : Int):=(Int.toNat_of_nonneg ha.1).symm
        rw [lookS_e h1 hg he hS hb hjj hm rfl]
        have:=com_wi hc (i:=x.a.toNat) (by omega) h2 h3
        rw [List.append_assoc] at this
        exact this
      · rw [lookS_d h1 hg he hS hb hjj]; exact hc
    · rw [lookS_c h1 hg he hS hb]; exact hc
  · rcases (show jumpB x = true ∨ jumpB x = false by cases jumpB x <;> simp) with hjj | hjj
    · have ha:=hj hjj
      have hm : x.a = (x.a.toNat : Int):=(Int.toNat_of_nonneg ha.1).symm
      rw [lookS_g h1 hg hjj hm rfl]
      exact com_wi h (i:=x.a.toNat) (by omega) h2 h3
    · rw [lookS_f h1 hg hjj]; simpa using h
def leftW (ds q : List Int) : Nat:=ds.count (-1) + q.length
theorem com_left {ds q : List Int} {i : Nat} {d : Int} (h : d ≠ -1) : leftW (comS ds i d).2.1 (q ++ (comS ds i d).2.2) = leftW ds q:=by
  have:=com_cnt (ds:=ds) (i:=i) h
  unfold leftW
  rw [List.length_append]
  omega
theorem look_left {tk pu : Ins → Int} {code : List Ins} {de : Int} {i : Nat} {x : Ins} {d : Int} {ds q : List Int} (hp : 0 ≤ pu x) : leftW (lookS tk pu code de i x d ds).2.1 (q ++ (lookS tk pu code de i x d ds).2.2) = leftW ds q:=by
  by_cases h1 : d - tk x < 0 ∨ de < d - tk x + pu x
  · rw [lookS_a h1]; simp
  have h2 : d - tk x + pu x ≠ -1:=by omega
  have hc:=com_left (ds:=ds) (q:=q) (i:=i + 1) h2
  obtain ⟨S,hS⟩ : ∃ S,comS ds (i + 1) (d - tk x + pu x) = S:=⟨_,rfl⟩
  rw [hS] at hc
  rcases (show goesB x = true ∨ goesB x = false by cases goesB x <;> simp) with hg | hg
  · by_cases he : i + 1 = code.length
    · rw [lookS_b h1 hg he]; simp
    rcases (show S.1 = true ∨ S.1 = false by cases S.1 <;> simp) with hb | hb
    · rcases (show jumpB x = true ∨ jumpB x = false by cases jumpB x <;> simp) with hjj | hjj
      · unfold lookS
        rw [hS,if_neg h1,if_neg (by simp [he]),if_neg (by simp [hb]),if_pos hjj,if_pos hg,if_pos hg]
        have:=com_left (ds:=S.2.1) (q:=q ++ S.2.2) (i:=x.a.toNat) h2
        rw [List.append_assoc] at this
        exact this.trans hc
      · rw [lookS_d h1 hg he hS hb hjj]; exact hc
    · rw [lookS_c h1 hg he hS hb]; exact hc
  · rcases (show jumpB x = true ∨ jumpB x = false by cases jumpB x <;> simp) with hjj | hjj
    · unfold lookS
      rw [if_neg h1,if_neg (by simp [hg]),if_neg (by simp [hg]),if_pos hjj]
      simp only [hg,Bool.false_eq_true,if_false,List.nil_append]
      exact com_left h2
    · rw [lookS_f h1 hg hjj]; simp
inductive RunW (tk pu : Ins → Int) (code : List Ins) (de : Int) : List Int → List Int → (List Int ⊕ Int × Nat) → Prop
  | done {ds : List Int} : RunW tk pu code de ds [] (.inl ds)
  | stop {ds q r : List Int} {i : Nat} {x : Ins} {d e : Int} : q.Perm ((i : Int) :: r) → code[i]? = some x → ds[i]? = some d → (lookS tk pu code de i x d ds).1 = e → e ≠ 0 → RunW tk pu code de ds q (.inr (e,i))
  | step {ds q r q' : List Int} {i : Nat} {x : Ins} {d : Int} {o : List Int ⊕ Int × Nat} : q.Perm ((i : Int) :: r) → code[i]? = some x → ds[i]? = some d → (lookS tk pu code de i x d ds).1 = 0 → q'.Perm (r ++ (lookS tk pu code de i x d ds).2.2) → RunW tk pu code de (lookS tk pu code de i x d ds).2.1 q' o → RunW tk pu code de ds q o
end LM
namespace LM
def ExtW (ds ds' : List Int) : Prop:=ds'.length = ds.length∧∀ (j : Nat) (v : Int),ds[j]? = some v → v ≠ -1 → ds'[j]? = some v
theorem ExtW.refl (ds : List Int) : ExtW ds ds:=⟨rfl,fun _ _ h _=>h⟩
theorem ExtW.trans {a b c : List Int} (h : ExtW a b) (h' : ExtW b c) : ExtW a c:=⟨h'.1.trans h.1,fun j v k k2=>h'.2 j v (h.2 j v k k2) k2⟩
theorem com_ext (ds : List Int) (i : Nat) (d : Int) : ExtW ds (comS ds i d).2.1:=by
  refine ⟨com_len ds i d,fun j v h hv=>?_⟩
  unfold comS
  split
  · rename_i hi
    by_cases hj : j = i
    · subst hj
      rw [hi] at h
      injection h with h
      exact absurd h.symm hv
    · show (ds.set i d)[j]? = some v
      rw [List.getElem?_set_ne (Ne.symm hj)]
      exact h
  · exact h
theorem com_at {ds : List Int} {i : Nat} {d : Int} (h : (comS ds i d).1 = true) : (comS ds i d).2.1[i]? = some d:=by
  unfold comS at h ⊢
  split
  · rename_i hi
    show (ds.set i d)[i]? = some d
    rw [List.getElem?_set_self (List.getElem?_eq_some_iff.1 hi).1]
  · rename_i hi
    rw [if_neg hi] at h
    exact of_decide_eq_true h
theorem com_new {ds : List Int} {i : Nat} {d : Int} {j : Nat} {v : Int} (h : (comS ds i d).2.1[j]? = some v) : ds[j]? = some v ∨ ((j : Int) ∈ (comS ds i d).2.2):=by
  unfold comS at h ⊢
  split
  · rename_i hi
    rw [if_pos hi] at h
    by_cases hj : j = i
    · subst hj; exact .inr (List.mem_singleton_self _)
    · have h2 : (ds.set i d)[j]? = some v:=h
      rw [List.getElem?_set_ne (Ne.symm hj)] at h2
      exact .inl h2
  · rename_i hi
    rw [if_neg hi] at h
    exact .inl h
theorem com_mem {ds : List Int} {i : Nat} {d : Int} {x : Int} (h : x ∈ (comS ds i d).2.2) : x = (i : Int)∧(comS ds i d).2.1[i]? = some d:=by
  unfold comS at h ⊢
  split
  · rename_i hi
    rw [if_pos hi] at h
    refine ⟨by simpa using h,?_⟩
    show (ds.set i d)[i]? = some d
    rw [List.getElem?_set_self (List.getElem?_eq_some_iff.1 hi).1]
  · rename_i hi
    rw [if_neg hi] at h
    cases h
theorem com_sub {ds D : List Int} {i : Nat} {d : Int} (h : ExtW ds D) (hd : d ≠ -1) (hD : D[i]? = some d) : (comS ds i d).1 = true∧ExtW (comS ds i d).2.1 D:=by
  have hl : i < ds.length:=by rw [← h.1]; exact (List.getElem?_eq_some_iff.1 hD).1
  unfold comS
  split
  · refine ⟨rfl,by show D.length = (ds.set i d).length; rw [List.length_set]; exact h.1,fun j v k kv=>?_⟩
    have k2 : (ds.set i d)[j]? = some v:=k
    by_cases hj : j = i
    · subst hj
      rw [List.getElem?_set_self hl] at k2
      rw [← k2]
      exact hD
    · rw [List.getElem?_set_ne (Ne.symm hj)] at k2
      exact h.2 j v k2 kv
  · rename_i hi
    have hg : ds[i]? = some ds[i]:=List.getElem?_eq_getElem hl
    have h1 : ds[i] ≠ -1:=fun e=>hi (by rw [hg,e])
    have h2:=h.2 i _ hg h1
    rw [hD] at h2
    exact ⟨decide_eq_true (by rw [hg]; exact h2.symm),h⟩
def CondW (tk pu : Ins → Int) (code : List Ins) (de : Int) (ds : List Int) (i : Nat) : Prop :=
  ∀ x d,code[i]? = some x → ds[i]? = some d → 0 ≤ d - tk x∧d - tk x + pu x ≤ de∧(goesB x = true → i + 1 < code.length∧ds[i + 1]? = some (d - tk x + pu x))∧(jumpB x = true → ds[x.a.toNat]? = some (d - tk x + pu x))
theorem CondW.ext {tk pu : Ins → Int} {code : List Ins} {de : Int} {ds ds' : List Int} {i : Nat} (h : CondW tk pu code de ds i) (he : ExtW ds ds') (hp : ∀ x ∈ code,0 ≤ pu x) {d : Int} (hd : ds[i]? = some d) (hd1 : d ≠ -1) : CondW tk pu code de ds' i:=by
  intro x d' hx hd'
  rw [he.2 i d hd hd1] at hd'
  injection hd' with hd'
  subst hd'
  obtain ⟨h1,h2,h3,h4⟩:=h x d hx hd
  have hpx:=hp x (List.mem_of_getElem? hx)
  exact ⟨h1,h2,fun g=>⟨(h3 g).1,he.2 _ _ (h3 g).2 (by omega)⟩,fun j=>he.2 _ _ (h4 j) (by omega)⟩
theorem look_ok {tk pu : Ins → Int} {code : List Ins} {de : Int} {ds : List Int} {i : Nat} {x : Ins} {d : Int} (hx : code[i]? = some x) (hd : ds[i]? = some d) (hd1 : d ≠ -1) (hp : 0 ≤ pu x) (hj : jumpB x = true → 0 ≤ x.a)
    (h0 : (lookS tk pu code de i x d ds).1 = 0) :
    ExtW ds (lookS tk pu code de i x d ds).2.1∧CondW tk pu code de (lookS tk pu code de i x d ds).2.1 i∧(∀ (j : Nat) v,(lookS tk pu code de i x d ds).2.1[j]? = some v → ds[j]? = some v ∨ (j : Int) ∈ (lookS tk pu code de i x d ds).2.2) ∧
      (∀ y ∈ (lookS tk pu code de i x d ds).2.2,∃ j : Nat,y = (j : Int)∧∃ v,(lookS tk pu code de i x d ds).2.1[j]? = some v∧v ≠ -1):=by
  have hil:=(List.getElem?_eq_some_iff.1 hx).1
  by_cases h1 : d - tk x < 0 ∨ de < d - tk x + pu x
  · rw [lookS_a h1] at h0; exact absurd h0 (by decide : ¬(113 : Int) = 0)
  have hz : 0 ≤ d - tk x:=by omega
  have hm : d - tk x + pu x ≤ de:=by omega
  obtain ⟨v,hv⟩ : ∃ v,d - tk x + pu x = v:=⟨_,rfl⟩
  have hv1 : v ≠ -1:=by omega
  have cond : ∀ D,ExtW ds D → (goesB x = true → i + 1 < code.length∧D[i + 1]? = some v) → (jumpB x = true → D[x.a.toNat]? = some v) → CondW tk pu code de D i:=by
    intro D hD g1 g2 x' d' hx' hd'
    rw [hx] at hx'
    injection hx' with hx'
    subst hx'
    rw [hD.2 i d hd hd1] at hd'
    injection hd' with hd'
    subst hd'
    rw [hv]
    exact ⟨hz,by omega,g1,g2⟩
  rcases (show goesB x = true ∨ goesB x = false by cases goesB x <;> simp) with hg | hg
  · by_cases he : i + 1 = code.length
    · rw [lookS_b h1 hg he] at h0; exact absurd h0 (by decide : ¬(114 : Int) = 0)
    obtain ⟨S,hS⟩ : ∃ S,comS ds (i + 1) (d - tk x + pu x) = S:=⟨_,rfl⟩
    rcases (show S.1 = true ∨ S.1 = false by cases S.1 <;> simp) with hb | hb
    · have e1 : ExtW ds S.2.1:=by rw [← hS]; exact com_ext ..
      have a1 : S.2.1[i + 1]? = some v:=by rw [← hv,← hS]; exact com_at (by rw [hS]; exact hb)
      have n1 : ∀ (j : Nat) w,S.2.1[j]? = some w → ds[j]? = some w ∨ (j : Int) ∈ S.2.2:=fun j w h=>by rw [← hS] at h ⊢; exact com_new h
      have m1 : ∀ y ∈ S.2.2,y = ((i + 1 : Nat) : Int):=fun y hy=>by rw [← hS] at hy; exact (com_mem hy).1
      rcases (show jumpB x = true ∨ jumpB x = false by cases jumpB x <;> simp) with hjj | hjj
      · have ha:=hj hjj
        have hma : x.a = (x.a.toNat : Int):=(Int.toNat_of_nonneg ha).symm
        obtain ⟨T,hT⟩ : ∃ T,comS S.2.1 x.a.toNat (d - tk x + pu x) = T:=⟨_,rfl⟩
        rw [lookS_e h1 hg he hS hb hjj hma hT] at h0 ⊢
        rcases (show T.1 = true ∨ T.1 = false by cases T.1 <;> simp) with ht | ht
        · have e2 : ExtW S.2.1 T.2.1:=by rw [← hT]; exact com_ext ..
          have a2 : T.2.1[x.a.toNat]? = some v:=by rw [← hv,← hT]; exact com_at (by rw [hT]; exact ht)
          refine ⟨e1.trans e2,cond _ (e1.trans e2) (fun _=>⟨by omega,e2.2 _ _ a1 hv1⟩) (fun _=>a2),fun j w h=>?_,fun y hy=>?_⟩
          · rcases (show S.2.1[j]? = some w ∨ (j : Int) ∈ T.2.2 by rw [← hT] at h ⊢; exact com_new h) with h | h
            · rcases n1 j w h with h | h
              · exact .inl h
              · exact .inr (List.mem_append_left _ h)
            · exact .inr (List.mem_append_right _ h)
          · rcases List.mem_append.1 hy with hy | hy
            · exact ⟨i + 1,m1 y hy,v,e2.2 _ _ a1 hv1,hv1⟩
            · exact ⟨x.a.toNat,by rw [← hT] at hy; exact (com_mem hy).1,v,a2,hv1⟩
        · simp [ht] at h0
      · rw [lookS_d h1 hg he hS hb hjj]
        exact ⟨e1,cond _ e1 (fun _=>⟨by omega,a1⟩) (fun h=>by rw [hjj] at h; cases h),n1,fun y hy=>⟨i + 1,m1 y hy,v,a1,hv1⟩⟩
    · rw [lookS_c h1 hg he hS hb] at h0; exact absurd h0 (by decide : ¬(113 : Int) = 0)
  · rcases (show jumpB x = true ∨ jumpB x = false by cases jumpB x <;> simp) with hjj | hjj
    · have ha:=hj hjj
      have hma : x.a = (x.a.toNat : Int):=(Int.toNat_of_nonneg ha).symm
      obtain ⟨T,hT⟩ : ∃ T,comS ds x.a.toNat (d - tk x + pu x) = T:=⟨_,rfl⟩
      rw [lookS_g h1 hg hjj hma hT] at h0 ⊢
      rcases (show T.1 = true ∨ T.1 = false by cases T.1 <;> simp) with ht | ht
      · have e2 : ExtW ds T.2.1:=by rw [← hT]; exact com_ext ..
        have a2 : T.2.1[x.a.toNat]? = some v:=by rw [← hv,← hT]; exact com_at (by rw [hT]; exact ht)
        exact ⟨e2,cond _ e2 (fun h=>by rw [hg] at h; cases h) (fun _=>a2),fun j w h=>by rw [← hT] at h ⊢; exact com_new h,fun y hy=>⟨x.a.toNat,by rw [← hT] at hy; exact (com_mem hy).1,v,a2,hv1⟩⟩
      · simp [ht] at h0
    · rw [lookS_f h1 hg hjj]
      exact ⟨ExtW.refl _,cond _ (ExtW.refl _) (fun h=>by rw [hg] at h; cases h) (fun h=>by rw [hjj] at h; cases h),fun j w h=>.inl h,fun y hy=>nomatch hy⟩
theorem look_sub {tk pu : Ins → Int} {code : List Ins} {de : Int} {ds D : List Int} {i : Nat} {x : Ins} {d : Int} (hx : code[i]? = some x) (hd : ds[i]? = some d) (hd1 : d ≠ -1) (hp : 0 ≤ pu x) (hj : jumpB x = true → 0 ≤ x.a)
    (hs : ExtW ds D) (hc : CondW tk pu code de D i) : (lookS tk pu code de i x d ds).1 = 0∧ExtW (lookS tk pu code de i x d ds).2.1 D:=by
  obtain ⟨k1,k2,k3,k4⟩:=hc x d hx (hs.2 i d hd hd1)
  have h1 : ¬(d - tk x < 0 ∨ de < d - tk x + pu x):=by omega
  have hv1 : d - tk x + pu x ≠ -1:=by omega
  rcases (show goesB x = true ∨ goesB x = false by cases goesB x <;> simp) with hg | hg
  · have he : ¬ i + 1 = code.length:=by have:=(k3 hg).1; omega
    obtain ⟨b1,b2⟩:=com_sub hs hv1 (k3 hg).2
    obtain ⟨S,hS⟩ : ∃ S,comS ds (i + 1) (d - tk x + pu x) = S:=⟨_,rfl⟩
    rw [hS] at b1 b2
    rcases (show jumpB x = true ∨ jumpB x = false by cases jumpB x <;> simp) with hjj | hjj
    · have hma : x.a = (x.a.toNat : Int):=(Int.toNat_of_nonneg (hj hjj)).symm
      obtain ⟨c1,c2⟩:=com_sub b2 hv1 (k4 hjj)
      obtain ⟨T,hT⟩ : ∃ T,comS S.2.1 x.a.toNat (d - tk x + pu x) = T:=⟨_,rfl⟩
      rw [hT] at c1 c2
      rw [lookS_e h1 hg he hS b1 hjj hma hT]
      exact ⟨by simp [c1],c2⟩
    · rw [lookS_d h1 hg he hS b1 hjj]
      exact ⟨rfl,b2⟩
  · rcases (show jumpB x = true ∨ jumpB x = false by cases jumpB x <;> simp) with hjj | hjj
    · have hma : x.a = (x.a.toNat : Int):=(Int.toNat_of_nonneg (hj hjj)).symm
      obtain ⟨c1,c2⟩:=com_sub hs hv1 (k4 hjj)
      obtain ⟨T,hT⟩ : ∃ T,comS ds x.a.toNat (d - tk x + pu x) = T:=⟨_,rfl⟩
      rw [hT] at c1 c2
      rw [lookS_g h1 hg hjj hma hT]
      exact ⟨by simp [c1],c2⟩
    · rw [lookS_f h1 hg hjj]
      exact ⟨rfl,hs⟩
def ClosedW (tk pu : Ins → Int) (code : List Ins) (de : Int) (D : List Int) : Prop:=D.length = code.length∧∀ (i : Nat) d,D[i]? = some d → d ≠ -1 → CondW tk pu code de D i
theorem run_closed {tk pu : Ins → Int} {code : List Ins} {de : Int} (hp : ∀ x ∈ code,0 ≤ pu x) (hj : ∀ x ∈ code,jumpB x = true → 0 ≤ x.a) {ds q : List Int} {o : List Int ⊕ Int × Nat} (h : RunW tk pu code de ds q o) :
    ∀ D,o = .inl D → ds.length = code.length → (∀ (i : Nat) d,ds[i]? = some d → d ≠ -1 → (i : Int) ∈ q ∨ CondW tk pu code de ds i) → (∀ y ∈ q,∃ j : Nat,y = (j : Int)∧∃ v,ds[j]? = some v∧v ≠ -1) → ExtW ds D∧ClosedW tk pu code de D:=by
  induction h with
  | done =>
    intro D hD hl hc hq
    injection hD with hD
    subst hD
    refine ⟨ExtW.refl _,hl,fun i d h1 h2=>?_⟩
    rcases hc i d h1 h2 with h | h
    · cases h
    · exact h
  | stop=>intro D hD; cases hD
  | @step ds q r q' i x d o h1 h2 h3 h4 h5 h6 ih =>
    intro D hD hl hc hq
    have hxm:=List.mem_of_getElem? h2
    obtain ⟨j,hji,v,hv,hv1⟩:=hq i (h1.mem_iff.2 (List.mem_cons_self ..))
    have hji : i = j:=Int.ofNat.inj hji
    subst hji
    rw [h3] at hv
    injection hv with hv
    subst hv
    obtain ⟨k1,k2,k3,k4⟩:=look_ok h2 h3 hv1 (hp x hxm) (hj x hxm) h4
    obtain ⟨m1,m2⟩:=ih D hD (k1.1.trans hl) (fun j v hjv hv1'=>by
      rcases k3 j v hjv with h | h
      · rcases hc j v h hv1' with h' | h'
        · rcases List.mem_cons.1 (h1.mem_iff.1 h') with e | h''
          · have e : j = i:=Int.ofNat.inj e
            subst e
            exact .inr k2
          · exact .inl (h5.mem_iff.2 (List.mem_append_left _ h''))
        · exact .inr (h'.ext k1 hp h hv1')
      · exact .inl (h5.mem_iff.2 (List.mem_append_right _ h))) (fun y hy=>by
      rcases List.mem_append.1 (h5.mem_iff.1 hy) with h | h
      · obtain ⟨j,e,v,hv,hv2⟩:=hq y (h1.mem_iff.2 (List.mem_cons_of_mem _ h))
        exact ⟨j,e,v,k1.2 _ _ hv hv2,hv2⟩
      · exact k4 y h)
    exact ⟨k1.trans m1,m2⟩
theorem run_same {tk pu : Ins → Int} {code : List Ins} {de : Int} (hp : ∀ x ∈ code,0 ≤ pu x) (hj : ∀ x ∈ code,jumpB x = true → 0 ≤ x.a) {E : List Int} (hE : ClosedW tk pu code de E) {ds q : List Int} {o : List Int ⊕ Int × Nat} (h : RunW tk pu code de ds q o) :
    ExtW ds E → (∀ y ∈ q,∃ j : Nat,y = (j : Int)∧∃ v,ds[j]? = some v∧v ≠ -1) → ∃ D,o = .inl D∧ExtW D E:=by
  induction h with
  | done=>intro hs hq; exact ⟨_,rfl,hs⟩
  | @stop ds q r i x d e h1 h2 h3 h4 h5 =>
    intro hs hq
    have hxm:=List.mem_of_getElem? h2
    obtain ⟨j,hji,v,hv,hv1⟩:=hq i (h1.mem_iff.2 (List.mem_cons_self ..))
    have hji : i = j:=Int.ofNat.inj hji
    subst hji
    rw [h3] at hv
    injection hv with hv
    subst hv
    exact absurd (h4.symm.trans (look_sub h2 h3 hv1 (hp x hxm) (hj x hxm) hs (hE.2 i d (hs.2 i d h3 hv1) hv1)).1) h5
  | @step ds q r q' i x d o h1 h2 h3 h4 h5 h6 ih =>
    intro hs hq
    have hxm:=List.mem_of_getElem? h2
    obtain ⟨j,hji,v,hv,hv1⟩:=hq i (h1.mem_iff.2 (List.mem_cons_self ..))
    have hji : i = j:=Int.ofNat.inj hji
    subst hji
    rw [h3] at hv
    injection hv with hv
    subst hv
    obtain ⟨k1,k2,k3,k4⟩:=look_ok h2 h3 hv1 (hp x hxm) (hj x hxm) h4
    exact ih (look_sub h2 h3 hv1 (hp x hxm) (hj x hxm) hs (hE.2 i d (hs.2 i d h3 hv1) hv1)).2 (fun y hy=>by
      rcases List.mem_append.1 (h5.mem_iff.1 hy) with h | h
      · obtain ⟨j,e,v,hv,hv2⟩:=hq y (h1.mem_iff.2 (List.mem_cons_of_mem _ h))
        exact ⟨j,e,v,k1.2 _ _ hv hv2,hv2⟩
      · exact k4 y h)
theorem run_begin {n : Nat} (hn : 0 < n) : ((List.replicate n (-1 : Int)).set 0 0).length = n∧((List.replicate n (-1 : Int)).set 0 0)[0]? = some 0∧∀ (i : Nat) d,((List.replicate n (-1 : Int)).set 0 0)[i]? = some d → d ≠ -1 → i = 0:=by
  refine ⟨by simp,List.getElem?_set_self (by simpa using hn),fun i d h hd=>?_⟩
  by_cases hi : i = 0
  · exact hi
  · rw [List.getElem?_set_ne (fun e=>hi e.symm),List.getElem?_replicate] at h
    split at h
    · injection h with h
      exact absurd h.symm hd
    · cases h
theorem run_good {tk pu : Ins → Int} {code : List Ins} {de : Int} (hp : ∀ x ∈ code,0 ≤ pu x) (hj : ∀ x ∈ code,jumpB x = true → 0 ≤ x.a) {n : Nat} (hn : 0 < n) (hl : n = code.length) {D : List Int} (h : RunW tk pu code de ((List.replicate n (-1)).set 0 0) [0] (.inl D)) :
    ClosedW tk pu code de D∧D[0]? = some 0:=by
  obtain ⟨b1,b2,b3⟩:=run_begin hn
  obtain ⟨k1,k2⟩:=run_closed hp hj h D rfl (b1.trans hl) (fun i d hi hd=>.inl (by rw [b3 i d hi hd]; exact List.mem_singleton_self _)) (fun y hy=>⟨0,by simpa using hy,0,b2,by decide⟩)
  exact ⟨k2,k1.2 0 0 b2 (by decide)⟩
theorem run_none {tk pu : Ins → Int} {code : List Ins} {de : Int} (hp : ∀ x ∈ code,0 ≤ pu x) (hj : ∀ x ∈ code,jumpB x = true → 0 ≤ x.a) {n : Nat} (hn : 0 < n) (hl : n = code.length) {E : List Int} (hE : ClosedW tk pu code de E) (hE0 : E[0]? = some 0) {o : List Int ⊕ Int × Nat} (h : RunW tk pu code de ((List.replicate n (-1)).set 0 0) [0] o) :
    ∃ D,o = .inl D∧ExtW D E:=by
  obtain ⟨b1,b2,b3⟩:=run_begin hn
  exact run_same hp hj hE h ⟨hE.1.trans (hl.symm.trans b1.symm),fun j v hj hv=>by have e:=b3 j v hj hv; subst e; rw [b2] at hj; rw [← hj]; exact hE0⟩ (fun y hy=>⟨0,by simpa using hy,0,b2,by decide⟩)
end LM
namespace LM
theorem look_le {tk pu : Ins → Int} {code : List Ins} {de : Int} {ds : List Int} {i : Nat} {x : Ins} {d : Int} (hj : jumpB x = true → 0 ≤ x.a) (h0 : (lookS tk pu code de i x d ds).1 = 0) (j : Nat) (v : Int)
    (h : (lookS tk pu code de i x d ds).2.1[j]? = some v) : ds[j]? = some v ∨ v ≤ de:=by
  by_cases h1 : d - tk x < 0 ∨ de < d - tk x + pu x
  · rw [lookS_a h1] at h0; exact absurd h0 (by decide : ¬(113 : Int) = 0)
  have hm : d - tk x + pu x ≤ de:=by omega
  have one : ∀ (ds : List Int) (i : Nat),(comS ds i (d - tk x + pu x)).2.1[j]? = some v → ds[j]? = some v ∨ v ≤ de:=by
    intro ds i hv
    rcases com_new hv with h | h
    · exact .inl h
    · obtain ⟨e,hc⟩:=com_mem h
      have e : j = i:=Int.ofNat.inj e
      subst e
      rw [hv] at hc
      injection hc with hc
      omega
  rcases (show goesB x = true ∨ goesB x = false by cases goesB x <;> simp) with hg | hg
  · by_cases he : i + 1 = code.length
    · rw [lookS_b h1 hg he] at h0; exact absurd h0 (by decide : ¬(114 : Int) = 0)
    obtain ⟨S,hS⟩ : ∃ S,comS ds (i + 1) (d - tk x + pu x) = S:=⟨_,rfl⟩
    rcases (show S.1 = true ∨ S.1 = false by cases S.1 <;> simp) with hb | hb
    · rcases (show jumpB x = true ∨ jumpB x = false by cases jumpB x <;> simp) with hjj | hjj
      · have hma : x.a = (x.a.toNat : Int):=(Int.toNat_of_nonneg (hj hjj)).symm
        obtain ⟨T,hT⟩ : ∃ T,comS S.2.1 x.a.toNat (d - tk x + pu x) = T:=⟨_,rfl⟩
        rw [lookS_e h1 hg he hS hb hjj hma hT] at h
        have h2 : T.2.1[j]? = some v:=h
        rw [← hT] at h2
        rcases one _ _ h2 with h3 | h3
        · rw [← hS] at h3
          exact one _ _ h3
        · exact .inr h3
      · rw [lookS_d h1 hg he hS hb hjj] at h
        have h2 : S.2.1[j]? = some v:=h
        rw [← hS] at h2
        exact one _ _ h2
    · rw [lookS_c h1 hg he hS hb] at h0; exact absurd h0 (by decide : ¬(113 : Int) = 0)
  · rcases (show jumpB x = true ∨ jumpB x = false by cases jumpB x <;> simp) with hjj | hjj
    · have hma : x.a = (x.a.toNat : Int):=(Int.toNat_of_nonneg (hj hjj)).symm
      obtain ⟨T,hT⟩ : ∃ T,comS ds x.a.toNat (d - tk x + pu x) = T:=⟨_,rfl⟩
      rw [lookS_g h1 hg hjj hma hT] at h
      have h2 : T.2.1[j]? = some v:=h
      rw [← hT] at h2
      exact one _ _ h2
    · rw [lookS_f h1 hg hjj] at h
      exact .inl h
theorem run_le {tk pu : Ins → Int} {code : List Ins} {de : Int} (hj : ∀ x ∈ code,jumpB x = true → 0 ≤ x.a) {ds q : List Int} {o : List Int ⊕ Int × Nat} (h : RunW tk pu code de ds q o) :
    ∀ D,o = .inl D → ∀ (j : Nat) v,D[j]? = some v → ds[j]? = some v ∨ v ≤ de:=by
  induction h with
  | done=>intro D hD j v hv; injection hD with hD; subst hD; exact .inl hv
  | stop=>intro D hD; cases hD
  | @step ds q r q' i x d o h1 h2 h3 h4 h5 h6 ih =>
    intro D hD j v hv
    rcases ih D hD j v hv with h | h
    · exact look_le (hj x (List.mem_of_getElem? h2)) h4 j v h
    · exact .inr h
theorem look_de {tk pu : Ins → Int} {code : List Ins} {de de0 : Int} {ds : List Int} {i : Nat} {x : Ins} {d : Int} (hde : de ≤ de0) (h0 : (lookS tk pu code de i x d ds).1 = 0) : lookS tk pu code de i x d ds = lookS tk pu code de0 i x d ds:=by
  by_cases h1 : d - tk x < 0 ∨ de < d - tk x + pu x
  · rw [lookS_a h1] at h0; exact absurd h0 (by decide : ¬(113 : Int) = 0)
  · have h2 : ¬(d - tk x < 0 ∨ de0 < d - tk x + pu x):=by omega
    unfold lookS
    rw [if_neg h1,if_neg h2]
theorem look_err {tk pu : Ins → Int} {code : List Ins} {de : Int} {ds : List Int} {i : Nat} {x : Ins} {d : Int} (hg : goesB x = true → i + 1 < code.length) (h0 : (lookS tk pu code de i x d ds).1 ≠ 0) : (lookS tk pu code de i x d ds).1 = 113:=by
  unfold lookS at h0 ⊢
  split
  · rfl
  split
  · rename_i h; have:=hg h.1; omega
  split
  · rfl
  split
  · rename_i h1 h2 h3 h4
    rw [if_neg h1,if_neg h2,if_neg h3,if_pos h4] at h0
    by_cases hc : (comS (if goesB x = true then (comS ds (i + 1) (d - tk x + pu x)).2.1 else ds) x.a.toNat (d - tk x + pu x)).1 = true
    · rw [if_pos hc] at h0
      exact absurd rfl h0
    · rw [if_neg hc]
  split
  · rename_i h1 h2 h3 h4 h5
    rw [if_neg h1,if_neg h2,if_neg h3,if_neg h4,if_pos h5] at h0
    exact absurd rfl h0
  · rename_i h1 h2 h3 h4 h5
    rw [if_neg h1,if_neg h2,if_neg h3,if_neg h4,if_neg h5] at h0
    exact absurd rfl h0
theorem run_err {tk pu : Ins → Int} {code : List Ins} {de de0 : Int} (hp : ∀ x ∈ code,0 ≤ pu x) (hj : ∀ x ∈ code,jumpB x = true → 0 ≤ x.a) (hde : de ≤ de0) {E : List Int} (hE : ClosedW tk pu code de0 E) {ds q : List Int} {o : List Int ⊕ Int × Nat} (h : RunW tk pu code de ds q o) :
    ExtW ds E → (∀ y ∈ q,∃ j : Nat,y = (j : Int)∧∃ v,ds[j]? = some v∧v ≠ -1) → ∀ e i,o = .inr (e,i) → e = 113:=by
  induction h with
  | done=>intro _ _ e i h; cases h
  | @stop ds q r i x d e h1 h2 h3 h4 h5 =>
    intro hs hq e' i' ho
    obtain ⟨j,hji,v,hv,hv1⟩:=hq i (h1.mem_iff.2 (List.mem_cons_self ..))
    have hji : i = j:=Int.ofNat.inj hji
    subst hji
    rw [h3] at hv
    injection hv with hv
    subst hv
    injection ho with ho
    injection ho with ho _
    rw [← ho,← h4]
    exact look_err (fun hg=>((hE.2 i d (hs.2 i d h3 hv1) hv1 x d h2 (hs.2 i d h3 hv1)).2.2.1 hg).1) (by rw [h4]; exact h5)
  | @step ds q r q' i x d o h1 h2 h3 h4 h5 h6 ih =>
    intro hs hq
    have hxm:=List.mem_of_getElem? h2
    obtain ⟨j,hji,v,hv,hv1⟩:=hq i (h1.mem_iff.2 (List.mem_cons_self ..))
    have hji : i = j:=Int.ofNat.inj hji
    subst hji
    rw [h3] at hv
    injection hv with hv
    subst hv
    obtain ⟨k1,k2,k3,k4⟩:=look_ok h2 h3 hv1 (hp x hxm) (hj x hxm) h4
    refine ih ?_ (fun y hy=>by
      rcases List.mem_append.1 (h5.mem_iff.1 hy) with h | h
      · obtain ⟨j,e,v,hv,hv2⟩:=hq y (h1.mem_iff.2 (List.mem_cons_of_mem _ h))
        exact ⟨j,e,v,k1.2 _ _ hv hv2,hv2⟩
      · exact k4 y h)
    rw [look_de hde h4]
    exact (look_sub h2 h3 hv1 (hp x hxm) (hj x hxm) hs (hE.2 i d (hs.2 i d h3 hv1) hv1)).2
theorem ClosedW.more {tk pu : Ins → Int} {code : List Ins} {de de0 : Int} {D : List Int} (h : ClosedW tk pu code de D) (hde : de ≤ de0) : ClosedW tk pu code de0 D :=
  ⟨h.1,fun i d hi hd x d' hx hd'=>by
    obtain ⟨k1,k2,k3,k4⟩:=h.2 i d hi hd x d' hx hd'
    exact ⟨k1,by omega,k3,k4⟩⟩
theorem ClosedW.behind {tk pu : Ins → Int} {code more : List Ins} {de : Int} {D : List Int} (h : ClosedW tk pu code de D) : ClosedW tk pu (code ++ more) de (D ++ List.replicate more.length (-1)):=by
  refine ⟨by simp [h.1],fun i d hi hd x d' hx hd'=>?_⟩
  have hil : i < D.length:=by
    rcases Nat.lt_or_ge i D.length with h9 | h9
    · exact h9
    · rw [List.getElem?_append_right h9,List.getElem?_replicate] at hi
      split at hi
      · injection hi with hi; exact absurd hi.symm hd
      · cases hi
  rw [List.getElem?_append_left hil] at hi hd'
  rw [List.getElem?_append_left (by rw [← h.1]; exact hil)] at hx
  obtain ⟨k1,k2,k3,k4⟩:=h.2 i d hi hd x d' hx hd'
  refine ⟨k1,k2,fun g=>?_,fun j=>?_⟩
  · obtain ⟨g1,g2⟩:=k3 g
    exact ⟨by rw [List.length_append]; omega,by rw [List.getElem?_append_left (by rw [h.1]; exact g1)]; exact g2⟩
  · have j2:=k4 j
    rw [List.getElem?_append_left (List.getElem?_eq_some_iff.1 j2).1]
    exact j2
theorem run_tight {tk pu : Ins → Int} {code : List Ins} {de de' : Int} (hp : ∀ x ∈ code,0 ≤ pu x) (hj : ∀ x ∈ code,jumpB x = true → 0 ≤ x.a) {n : Nat} (hn : 0 < n) (hl : n = code.length) {D : List Int} (h : RunW tk pu code de ((List.replicate n (-1)).set 0 0) [0] (.inl D))
    {j : Nat} {m : Int} (hm : D[j]? = some m) (hm0 : 1 ≤ m) (hde : de' < m) (hdd : de' ≤ de) {o : List Int ⊕ Int × Nat} (h2 : RunW tk pu code de' ((List.replicate n (-1)).set 0 0) [0] o) : ∃ i,o = .inr (113,i):=by
  obtain ⟨b1,b2,b3⟩:=run_begin hn
  obtain ⟨k1,k2⟩:=run_good hp hj hn hl h
  rcases o with D' | ⟨e,i⟩
  · obtain ⟨q1,q2⟩:=run_good hp hj hn hl h2
    obtain ⟨D2,hD2,hx⟩:=run_none hp hj hn hl (q1.more hdd) q2 h
    injection hD2 with hD2
    subst hD2
    have h5:=hx.2 j m hm (by omega)
    rcases run_le hj h2 D' rfl j m h5 with h6 | h6
    · have hj0:=b3 j m h6 (by omega)
      subst hj0
      rw [b2] at h6
      injection h6 with h6
      omega
    · omega
  · have he:=run_err hp hj hdd k1 h2 ⟨k1.1.trans (hl.symm.trans b1.symm),fun j v hj hv=>by have e:=b3 j v hj hv; subst e; rw [b2] at hj; rw [← hj]; exact k2⟩ (fun y hy=>⟨0,by simpa using hy,0,b2,by decide⟩) e i rfl
    exact ⟨i,by rw [he]⟩
end LM
namespace LM
theorem vwpop_any (B W0 g1 : Nat) (p0 p1 p2 p3 : Value) (ds : List Int) (lv : Value) (q : List Int) (w : World) (h : WS w B W0 g1 p0 p1 p2 p3 ds lv q) (h0 : 0 < q.length) (hl : q.length ≤ 1000000) :
    Calls Tryz.prog 30 #[.iface 82 (.pointer (some ⟨W0,5,none⟩))] w fun e w'=>∃ v rest lv',e = .returned (.iface 3 (.int .i64 v))∧q.Perm (v :: rest)∧WS w' B W0 g1 p0 p1 p2 p3 ds lv' rest∧Below B w w':=by
  refine (vhpop_any B W0 _ _ lv q w h.hq h0 hl).mono ?_
  rintro e w' ⟨v,rest,lv',rfl,k1,k2,k3,k4⟩
  have hg1L : g1 ∉ W0 :: blkL lv:=by
    simp only [List.mem_cons,not_or]
    exact ⟨h.ne1,fun h9=>h.ne2 (mem_blk h9)⟩
  refine ⟨v,rest,lv',rfl,k1,⟨k2,(k3.keep g1 (hlt_of h.dep) hg1L).trans h.dep,h.ne1,by rw [k4]; exact h.ne2,h.bW,h.bg,Nat.le_trans h.bw k3.size⟩,k3.below h.bw ?_⟩
  intro k hk
  rcases List.mem_cons.1 hk with rfl | hk
  · exact h.bW
  · exact h.hq.blk_base k hk
def dsR (pn : Nat) (g1 : Nat) : (List Int ⊕ Int × Nat) → Value
  | .inl ds=>.tuple #[.slice (some ⟨g1,0,none⟩) ds.length ds.length,.agg #[.int .i64 0,.int .i64 0,.int .i64 0]]
  | .inr (e,i)=>.tuple #[.slice none 0 0,.agg #[.int .i64 e,.int .i64 (pn : Int),.int .i64 (i : Int)]]
end LM
end Go.Proofs.YtihbgghlnppkiaaGreatDoor
