import Derived.RangeFuncNested
import Derived.RangeFuncBound
import Derived.RangeFuncCalls
import Derived.RangeFuncLeaves
import Derived.RangeFuncBox
import Derived.Shelf.Abstract
import Derived.Shelf.RegionOpen
import Derived.OwnWalkIn
import Derived.TacticsInMore
import Derived.LoopNIn
import Derived.LoopIn
import Derived.Test.YtihbgghlnppkiaaGreatDoorR04
import Derived.Deep.RegionWith
set_option linter.unusedVariables false
set_option linter.unusedSimpArgs false
set_option maxRecDepth 100000
set_option maxHeartbeats 16000000
namespace Go.Proofs.YtihbgghlnppkiaaGreatDoor
open Go.RowKit Go.Shelf
attribute [local go_sem] Oper.semAt_some
namespace LM
def BwOk (Bs : Nat) (A : Option Addr) (n c : Nat) (ok : Nat → Nat → Prop) (W : World) : Prop :=
  W.cell? ⟨Bs,0,none⟩ = some (.slice A n c)∧(0 < n → ∃ b off,A = some ⟨b,off,none⟩∧∀ k,k < n → ∃ v : Nat,ok k v∧W.cell? ⟨b,off + k,none⟩ = some (.int .u32 (v : Int)))
abbrev Plc (n : Nat) (ok : Nat → Nat → Prop):={ x : Nat × Nat // x.1 < n∧ok x.1 x.2 }
def plc {n : Nat} {ok : Nat → Nat → Prop} (x : Plc n ok) : Nat:=x.1.1
def downs (n k : Nat) : List Nat:=(List.range k).map fun j=>n - 1 - j
theorem downs_succ (n k : Nat) : downs n (k + 1) = downs n k ++ [n - 1 - k]:=by simp [downs,List.range_succ]
theorem downs_len (n k : Nat) : (downs n k).length = k:=by simp [downs]
theorem BwOk.kept {Bs : Nat} {A : Option Addr} {n c : Nat} {ok : Nat → Nat → Prop} {W W' : World} {row : Option Nat} (h : BwOk Bs A n c ok W) (hg : W.grownBy W' row)
    (hr : ∀ r,row = some r → ∃ o : Obj,W.heap[r]? = some o∧o.isCells = false) : BwOk Bs A n c ok W' :=
  ⟨cell_kept h.1 hg hr,fun hn=>by
    obtain ⟨b,off,e,hc⟩:=h.2 hn
    exact ⟨b,off,e,fun k hk=>by
      obtain ⟨v,hv,hcv⟩:=hc k hk
      exact ⟨v,hv,cell_kept hcv hg hr⟩⟩⟩
theorem BwOk.below {Bs : Nat} {A : Option Addr} {n c B : Nat} {ok : Nat → Nat → Prop} {W W' : World} (h : BwOk Bs A n c ok W) (hg : Below B W W') (hB : Bs < B) (hA : 0 < n → ∀ ad,A = some ad → ad.block < B) : BwOk Bs A n c ok W' :=
  ⟨(hg.cell (p:=⟨Bs,0,none⟩) hB).trans h.1,fun hn=>by
    obtain ⟨b,off,e,hc⟩:=h.2 hn
    exact ⟨b,off,e,fun k hk=>by
      obtain ⟨v,hv,hcv⟩:=hc k hk
      exact ⟨v,hv,(hg.cell (p:=⟨b,off + k,none⟩) (hA hn ⟨b,off,none⟩ e)).trans hcv⟩⟩⟩
theorem backward_in (n : Nat) (A : Option Addr) (len cap : Nat) (w : World) :
    CallsIn Fence.wide n Tryz.prog 150 #[.slice A len cap] w fun e w'=>e = .returned (.func (.func 190) #[] #[.pointer (some ⟨w.heap.size,0,none⟩)])∧w.alloc (.cells #[.slice A len cap] 59) = w':=by
  refine callsIn_of_wp Tryz.func150 rfl trivial ?_ rfl
  simp only [Tryz.ntmps150,List.size_toArray,List.length_cons,List.length_nil,Nat.reduceAdd,Nat.reduceSub,Array.replicate_succ,Array.replicate_zero,List.push_toArray,List.append_toArray,List.nil_append,List.cons_append]
  gi_wp2
  go_ret
  exact ⟨rfl,rfl⟩
theorem backward_stops (n : Nat) (hn : 1 ≤ n) (Bs : Nat) (A : Option Addr) (len cap : Nat) (hlen : len ≤ 1000000) (ok : Nat → Nat → Prop) (Kp : World → World → Prop) (hKp : ∀ W W',Kp W W' → BwOk Bs A len cap ok W → BwOk Bs A len cap ok W')
    (w : World) (hBs : Bs < w.heap.size) (hA : 0 < len → ∀ ad,A = some ad → ad.block < w.heap.size) (h0 : BwOk Bs A len cap ok w) :
    SeqStopsK Fence.wide n Tryz.prog 190 #[.pointer (some ⟨Bs,0,none⟩)] (fun x : Plc len ok=>#[Value.int .i64 (x.1.1 : Int),Value.int .u32 (x.1.2 : Int)]) Kp
      (fun ys=>ys.map plc = downs len len) (fun pre=>∃ k,k ≤ len∧pre.map plc = downs len k) len w:=fun l J Jx W hW hJ _ hY hJ0=>by
  have hok:=h0.below hW hBs hA
  refine callsIn_of_wp Tryz.func190 rfl trivial ?_ rfl
  simp only [Tryz.ntmps190,List.size_toArray,List.length_cons,List.length_nil,Nat.reduceAdd,Nat.reduceSub,Array.replicate_succ,Array.replicate_zero,List.push_toArray,List.append_toArray,List.nil_append,List.cons_append]
  have hbox:=hok.1
  gi_wp2
  gi_loopw [3] (fun i wr=>∃ (j : Nat) (pre : List (Plc len ok)),j ≤ len∧i = .int .i64 ((j : Int) - 1)∧pre.map plc = downs len (len - j)∧J pre wr∧BwOk Bs A len cap ok wr)
    (fun i _=>(intOf i + 1).toNat)
  case atStart=>exact ⟨len,[],Nat.le_refl _,rfl,by simp [downs],hJ0,hok⟩
  case round =>
    clear hbox hok
    obtain ⟨j,pre,hj,rfl,hpre,hJs,hokr⟩:=hrel
    have HPRE:=Lib.hid hpre
    rcases j with _ | m
    · clear hpre
      gi_wp2
      go_end0
      exact ⟨⟨_,rfl⟩,.inl ⟨pre,HPRE.out,hJs⟩⟩
    · have hlp : pre.length < len:=by
        have h:=congrArg List.length hpre
        rw [List.length_map,downs_len] at h
        omega
      clear hpre
      obtain ⟨b,off,rfl,hc⟩:=hokr.2 (by omega)
      obtain ⟨v,hv,hcv⟩:=hc m (by omega)
      have hbox:=hokr.1
      have HOK:=Lib.hid hokr
      clear hc hokr
      have hml : m < len:=by omega
      obtain ⟨pm,hpm⟩ : ∃ pm : Plc len ok,pm = ⟨(m,v),⟨hml,hv⟩⟩:=⟨⟨(m,v),⟨hml,hv⟩⟩,rfl⟩
      obtain ⟨fn,tmps,assign,body,hy,hR⟩:=hY pre pm wr hJs hlp
      rw [hpm] at hy
      dsimp only at hy
      rw [show ((m + 1 : Nat) : Int) - 1 = (m : Int) from by omega]
      have hdn : (pre ++ [pm]).map plc = downs len (len - m):=by
        rw [List.map_append,HPRE.out,show len - m = (len - (m + 1)) + 1 from by omega,downs_succ]
        congr 1
        rw [hpm]
        simp [plc]; omega
      have HPM:=Lib.hid hpm
      have HDN:=Lib.hid hdn
      clear hdn hpm
      gi_wp2
      refine hR.mono ?_
      rintro e W3 (⟨rfl,hJ3,hk3⟩ | ⟨rfl,hJx3⟩)
      · have HOK3:=Lib.hid (hKp _ _ hk3 HOK.out)
        gi_wp2
        go_roundw
        case rel=>exact ⟨m,pre ++ [pm],by omega,rfl,HDN.out,hJ3,HOK3.out⟩
        case measure=>simp [intOf]
      · gi_wp2
        refine bodyPost_ret (results_none rfl _ _ _) rfl ?_
        exact ⟨⟨_,rfl⟩,.inr ⟨_,⟨len - m,by omega,HDN.out⟩,hJx3⟩⟩
end LM
attribute [local go_sem] Oper.semAt_some
namespace LM
end LM
end Go.Proofs.YtihbgghlnppkiaaGreatDoor
namespace Go.Proofs.YtihbgghlnppkiaaGreatDoor
open Go Go.RowKit
namespace LM
def bytesObj : Obj → Bool
  | .cells _ t _=>t == 5
  | _=>false
structure Keeps8 (B : Nat) (W W' : World) : Prop where
  size : W.heap.size ≤ W'.heap.size
  same : ∀ (k : Nat) (o : Obj),B ≤ k → W.heap[k]? = some o → bytesObj o = false → W'.heap[k]? = some o
theorem Keeps8.refl (B : Nat) (W : World) : Keeps8 B W W:=⟨Nat.le_refl _,fun _ _ _ h _=>h⟩
theorem Keeps8.trans {B : Nat} {X Y Z : World} (h : Keeps8 B X Y) (k : Keeps8 B Y Z) : Keeps8 B X Z:=⟨Nat.le_trans h.size k.size,fun i o hB hi ho=>k.same i o hB (h.same i o hB hi ho) ho⟩
theorem Keeps8.mono {B C : Nat} {X Y : World} (h : Keeps8 B X Y) (hc : B ≤ C) : Keeps8 C X Y:=⟨h.size,fun i o hB hi ho=>h.same i o (by omega) hi ho⟩
theorem Keeps8.grown {B : Nat} {X Y Z : World} {row : Option Nat} (h : Keeps8 B X Y) (hg : Y.grownBy Z row) (hr : ∀ j,row = some j → j < B ∨ X.heap.size ≤ j ∨ ∃ o,Y.heap[j]? = some o∧bytesObj o = true) : Keeps8 B X Z :=
  ⟨Nat.le_trans h.size hg.size,fun k o hB hk ho=>by
    have h1:=h.same k o hB hk ho
    have hk2:=(Array.getElem?_eq_some_iff.1 hk).1
    refine (hg.block k (Array.getElem?_eq_some_iff.1 h1).1 (fun e=>?_)).trans h1
    rcases hr k e.symm with hj | hj | ⟨o',ho',hb⟩
    · omega
    · omega
    · rw [h1] at ho'; injection ho' with ho'; subst ho'; rw [ho] at hb; cases hb⟩
theorem Keeps8.put {B : Nat} {W : World} {l : Nat} (hl : l < B) (o' : Obj) : Keeps8 B W (W.putObj l o') :=
  (Keeps8.refl B W).grown (grownBy_putObj' W l o') (fun j e=>by cases e; exact .inl hl)
def SeqAll {α : Type} (F : Fence) (n : Nat) (P : Program) (g : Nat) (lb : Array Value) (encs : α → Array Value) (Ok : World → Prop) (Pr S : List α → Prop) (w : World) : Prop :=
  ∀ (l : Nat) (J : List α → World → Prop) (W : World),Below w.heap.size w W → OwnFrom W.heap.size J →
    (∀ pre x W1,J pre W1 → Pr (pre ++ [x]) → YieldAt F (n - 1) P l (encs x) W1 fun e W'=>e = .returned (.bool true)∧J (pre ++ [x]) W'∧Keeps8 W.heap.size W1 W'∧Ok W') →
    J [] W → CallsIn F n P g (#[.func (.yield l) #[] #[]] ++ lb) W fun e W'=>(∃ v,e = .returned v)∧∃ xs,S xs∧J xs W'
def Goes {α : Type} (B : Nat) (I : List α → World → Prop) (xs : List α) (W : World) : Exit → Act → World → Prop
  | .normal,_,W'=>Keeps8 B W W'∧I xs W'
  | _,_,_=>False
theorem range_all {F : Fence} {n : Nat} {P : Program} {α : Type} {g : Operand} {ps : Array Tmp} {assign body : Code} {Q : Exit → Act → World → Prop} {a : Act} {w : World}
    (hro : F.round = none) (h1 : 1 ≤ n) {gf : Nat} {lb : Array Value} (hg : a.eval g = .func (.func gf) #[] lb) (hFg : F.fn gf) (eg : ∀ args w,(callFunc gf args).run P w = .ok (.enter gf args) w)
    {encs : α → Array Value} {Ok : World → Prop} {Pr S : List α → Prop} {w0 : World} (hseq : SeqAll F (n - 1) P gf lb encs Ok Pr S w0) (hb0 : Below w0.heap.size w0 w) (hps : ∀ x,(encs x).size = ps.size)
    (I : List α → World → Prop) (hI : OwnFrom w.heap.size I) (hOk : ∀ xs W,I xs W → Ok W) (h0 : I [] w) (a₁ : α → Act)
    (hassign : ∀ (l : Nat) (x : α) (W : World) (K : Act → World → Prop),K (a₁ x) W →
      assign.wpIn (F.inRound l) (n - 1 - 1) P (Exit.then K (fun _ _ _=>False)) { tmps:=(ps.zip (encs x)).foldl (fun t (p,v)=>t.setIfInBounds p v) a.tmps,defers:=[] } W)
    (hbody : ∀ (l : Nat) (pre : List α) (x : α) (W : World),I pre W → Pr (pre ++ [x]) → body.wpIn (F.inRound l) (n - 1 - 1) P (Goes w.heap.size I (pre ++ [x]) W) (a₁ x) W)
    (hdone : ∀ (D : Nat) (xs : List α) (W : World),w.heap.size ≤ D → S xs → I xs W → W.heap[D]? = some (.deferred (some [])) → Q .normal { a with defers:={ target:=.collected D,args:=#[] } :: a.defers } W) :
    (Code.rangeFunc g ps assign body).wpIn F n P Q a w:=by
  refine wpIn_rangeFunc fun fn hfn=>?_
  rw [hro]
  let rec0 : LoopState → Option Code → Loop:=fun st pe=>{ state:=st,pending:=pe,fn,tmps:=a.tmps,params:=ps,assign,body,defers:=w.heap.size }
  obtain ⟨l,hl⟩ : ∃ l,l = w.heap.size + 1:=⟨_,rfl⟩
  obtain ⟨W1,hW1⟩ : ∃ W1,(w.alloc (.deferred (some []))).alloc (.loop (rec0 .ready none)) = W1:=⟨_,rfl⟩
  have sz : W1.heap.size = l + 1:=by rw [← hW1,hl]; simp
  have hL : W1.heap[l]? = some (.loop (rec0 .ready none)):=by
    rw [← hW1,hl]; have:=World.alloc_heap_new (w.alloc (.deferred (some []))) (.loop (rec0 .ready none)); rwa [World.size_alloc] at this
  have hD : W1.heap[w.heap.size]? = some (.deferred (some [])):=by
    rw [← hW1]; exact (Below.heap_alloc _ _ _ (by simp)).trans (World.alloc_heap_new w _)
  have hI1 : I [] W1:=by rw [← hW1]; exact hI.alloc _ (hI.alloc _ h0)
  have hb1 : Below w0.heap.size w0 W1:=by
    rw [← hW1]; exact hb0.trans ((((Below.refl _ w).alloc (Nat.le_refl _) _).alloc (by simp) _).mono hb0.size)
  refine ⟨l,[{ target:=.collected w.heap.size,args:=#[] }],W1,{ target:=.fn (.func gf) lb,args:=#[.func (.yield l) #[] #[]] },W1,gf,#[.func (.yield l) #[] #[]] ++ lb,W1,?_,?_,?_,?_,fun _=>h1,?_⟩
  · rw [← hW1,hl]; exact run_enterLoop_outer _ _ _ _ _
  · simp only [resolve,hg]; simp [go_sem]
  · intro f' hf'; simp [Target.leads] at hf'; subst hf'; exact hFg
  · simp [invoke,go_sem,eg]
  have keep : ∀ {A B : World} {row : Option Nat} {k : Nat} {o : Obj},A.grownBy B row → (∀ r,row = some r → W1.heap.size ≤ r∧∃ o : Obj,A.heap[r]? = some o∧o.isCells = false) → k < W1.heap.size → A.heap[k]? = some o → B.heap[k]? = some o:=fun hgr hr hk ho =>
    (hgr.block _ (Array.getElem?_eq_some_iff.1 ho).1 (fun e=>by have:=(hr _ e.symm).1; omega)).trans ho
  refine (hseq l (fun pre W=>I pre W∧W.heap[l]? = some (.loop (rec0 .ready none))∧W.heap[w.heap.size]? = some (.deferred (some []))) W1 hb1
    (fun s A B row hs hgr hr=>⟨hI s A B row hs.1 hgr (fun r e=>⟨by have:=(hr r e).1; omega,(hr r e).2⟩),keep hgr hr (by omega) hs.2.1,keep hgr hr (by omega) hs.2.2⟩) ?_ ⟨hI1,hL,hD⟩).mono ?_
  · rintro pre x W ⟨hi,hlr,hdr⟩ hlen
    have hlt : l < W.heap.size:=(Array.getElem?_eq_some_iff.1 hlr).1
    refine ⟨fn,_,assign,body,run_yield (P:=P) (args:=encs x) hlr (hps x),roundIn_of_wpIn hfn (hassign _ x W _ ⟨_,run_beginRound hlr rfl,?_⟩)⟩
    have hl2 : (W.putObj l (.loop { rec0 .ready none with state:=.busy })).heap[l]? = some (.loop { rec0 .ready none with state:=.busy }):=World.putObj_heap_same hlt
    have hd2 : (W.putObj l (.loop { rec0 .ready none with state:=.busy })).heap[w.heap.size]? = some (.deferred (some [])):=(World.putObj_heap_other (by omega)).trans hdr
    refine wpIn_mono (hbody _ pre x _ (hI.putObj _ hi (by omega) hlr rfl) hlen) ?_
    rintro e a3 W3 hp
    cases e with
    | normal =>
      obtain ⟨hk3,hi3⟩:=hp
      have hl3:=hk3.same _ _ (by omega) hl2 rfl
      have hd3:=hk3.same _ _ (Nat.le_refl _) hd2 rfl
      refine ⟨_,_,run_endRound (P:=P) none hl3,rfl,⟨hI.putObj _ hi3 (by omega) hl3 rfl,World.putObj_heap_same (Array.getElem?_eq_some_iff.1 hl3).1,(World.putObj_heap_other (by omega)).trans hd3⟩,?_,hOk _ _ (hI.putObj _ hi3 (by omega) hl3 rfl)⟩
      exact ((Keeps8.put (by omega) _).trans (hk3.mono (by omega))).trans (Keeps8.put (by omega) _)
    | _=>exact hp.elim
  · rintro e W2 ⟨⟨v,rfl⟩,xs,hS,hi,hlr,hdr⟩
    exact ⟨none,_,run_endLoop (P:=P) hlr (by simp [rec0]),hdone _ xs _ (Nat.le_refl _) hS (hI.putObj _ hi (by omega) hlr rfl) ((World.putObj_heap_other (by omega)).trans hdr)⟩
end LM
end Go.Proofs.YtihbgghlnppkiaaGreatDoor
namespace Go.Proofs.YtihbgghlnppkiaaGreatDoor
open Go.RowKit Go.Shelf
attribute [local go_sem] Oper.semAt_some
namespace LM
def Downs {n : Nat} {ok : Nat → Nat → Prop} (ys : List (Plc n ok)) : Prop:=ys.map plc = downs n ys.length∧ys.length ≤ n
theorem backward_all (n : Nat) (hn : 1 ≤ n) (Bs : Nat) (A : Option Addr) (len cap : Nat) (hlen : len ≤ 1000000) (ok : Nat → Nat → Prop)
    (w : World) (hBs : Bs < w.heap.size) (hA : 0 < len → ∀ ad,A = some ad → ad.block < w.heap.size) (h0 : BwOk Bs A len cap ok w) :
    SeqAll Fence.wide n Tryz.prog 190 #[.pointer (some ⟨Bs,0,none⟩)] (fun x : Plc len ok=>#[Value.int .i64 (x.1.1 : Int),Value.int .u32 (x.1.2 : Int)]) (BwOk Bs A len cap ok)
      Downs (fun ys=>ys.map plc = downs len len) w:=fun l J W hW hJ hY hJ0=>by
  have hok:=h0.below hW hBs hA
  refine callsIn_of_wp Tryz.func190 rfl trivial ?_ rfl
  simp only [Tryz.ntmps190,List.size_toArray,List.length_cons,List.length_nil,Nat.reduceAdd,Nat.reduceSub,Array.replicate_succ,Array.replicate_zero,List.push_toArray,List.append_toArray,List.nil_append,List.cons_append]
  have hbox:=hok.1
  gi_wp2
  gi_loopw [3] (fun i wr=>∃ (j : Nat) (pre : List (Plc len ok)),j ≤ len∧i = .int .i64 ((j : Int) - 1)∧pre.map plc = downs len (len - j)∧J pre wr∧BwOk Bs A len cap ok wr)
    (fun i _=>(intOf i + 1).toNat)
  case atStart=>exact ⟨len,[],Nat.le_refl _,rfl,by simp [downs],hJ0,hok⟩
  case round =>
    clear hbox hok
    obtain ⟨j,pre,hj,rfl,hpre,hJs,hokr⟩:=hrel
    have HPRE:=Lib.hid hpre
    rcases j with _ | m
    · clear hpre
      gi_wp2
      go_end0
      exact ⟨⟨_,rfl⟩,pre,HPRE.out,hJs⟩
    · have hlp : pre.length < len:=by
        have h:=congrArg List.length hpre
        rw [List.length_map,downs_len] at h
        omega
      clear hpre
      obtain ⟨b,off,rfl,hc⟩:=hokr.2 (by omega)
      obtain ⟨v,hv,hcv⟩:=hc m (by omega)
      have hbox:=hokr.1
      have HOK:=Lib.hid hokr
      clear hc hokr
      have hml : m < len:=by omega
      obtain ⟨pm,hpm⟩ : ∃ pm : Plc len ok,pm = ⟨(m,v),⟨hml,hv⟩⟩:=⟨⟨(m,v),⟨hml,hv⟩⟩,rfl⟩
      have hdn : (pre ++ [pm]).map plc = downs len (len - m):=by
        rw [List.map_append,HPRE.out,show len - m = (len - (m + 1)) + 1 from by omega,downs_succ]
        congr 1
        rw [hpm]
        simp [plc]; omega
      have hdl : (pre ++ [pm]).length = len - m:=by
        have h:=congrArg List.length hdn
        rwa [List.length_map,downs_len] at h
      obtain ⟨fn,tmps,assign,body,hy,hR⟩:=hY pre pm wr hJs ⟨by rw [hdl]; exact hdn,by omega⟩
      rw [hpm] at hy
      dsimp only at hy
      rw [show ((m + 1 : Nat) : Int) - 1 = (m : Int) from by omega]
      have HPM:=Lib.hid hpm
      have HDN:=Lib.hid hdn
      clear hdn hpm hdl
      gi_wp2
      refine hR.mono ?_
      rintro e W3 ⟨rfl,hJ3,hk3,hok3⟩
      have HOK3:=Lib.hid hok3
      clear hok3
      gi_wp2
      go_roundw
      case rel=>exact ⟨m,pre ++ [pm],by omega,rfl,HDN.out,hJ3,HOK3.out⟩
      case measure=>simp [intOf]
end LM
end Go.Proofs.YtihbgghlnppkiaaGreatDoor
