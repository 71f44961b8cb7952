import Derived.Sort.QuietIn
import Derived.RangeFuncNested
import Derived.Test.YtaonablbgicmpaaGreatDoorE04
import Derived.StillTail
set_option linter.unusedVariables false
set_option linter.unusedSimpArgs false
set_option maxRecDepth 100000
set_option maxHeartbeats 16000000
namespace Go.Proofs.YtaonablbgicmpaaGreatDoor
open Go Go.RowKit
namespace LM
def noDefer (ops : Array Oper) : Bool:=ops.all fun o=>match o.op with | .defer _=>false | _=>true
section
variable {F : Fence} {n : Nat} {P : Program} {ops : Array Oper} {C : World → Prop}
theorem noDefer_spec (h : noDefer ops = true) {i : Nat} {o : Oper} (ho : ops[i]? = some o) : ∀ c,o.op ≠ .defer c:=by
 intro c hc
 obtain ⟨hi,e⟩:=Array.getElem?_eq_some_iff.1 ho
 have h1:=Array.all_eq_true.1 h i hi
 rw [e,hc] at h1
 cases h1
theorem read_op {o : Oper} {a : Act} {K : Act → Prop} {K' : Act → World → Prop} {Q' : Exit → Act → World → Prop} {w : World} (hd : ∀ c,o.op ≠ .defer c) (hw : C w) (hK : ∀ a w',C w' → K a → K' a w')
  (ha : o.askedIn F P a C) (hh : o.quietIn F n P a C K) : o.wpIn F n P a w K' Q':=by
 obtain ⟨v,h1,h2⟩:=hh
 have h3:=h1 w hw
 unfold Oper.quietAtIn at h3
 unfold Oper.wpIn
 rw [Oper.semAt_eq _ _ _ hd]
 refine ⟨ha w hw,?_⟩
 generalize (execOp a.eval o).run P w = r at *
 match r,h3 with
 | .ok (.value _) _,h3=>obtain ⟨rfl,rfl⟩:=h3; exact hK _ _ hw h2
 | .ok .skip _,h3=>obtain ⟨rfl,rfl⟩:=h3; exact hK _ _ hw h2
 | .ok (.enter _ _) _,h3=>obtain ⟨rfl,hr,hc⟩:=h3; exact ⟨hr,hc.mono fun e w'' hp=>by rw [hp.1]; exact hK _ _ hp.2 h2⟩
theorem read_at {i : Nat} {a : Act} {K : Act → Prop} {K' : Act → World → Prop} {Q' : Exit → Act → World → Prop} {w : World} (hn : noDefer ops = true) (hw : C w) (hK : ∀ a w',C w' → K a → K' a w')
  (hh : qOpIn F n P ops C i K a) : wpOpIn F n P ops Q' i K' a w:=by
 unfold qOpIn at hh
 unfold wpOpIn
 cases ho : ops[i]? with
 | none=>simp only [ho] at hh ⊢; exact hK _ _ hw hh
 | some o =>
  simp only [ho] at hh ⊢
  cases hg : Region.wanted o (yielded ops a.tmps) with
  | true=>simp only [hg,if_true] at hh ⊢; exact read_op (noDefer_spec hn ho) hw hK hh.1 hh.2
  | false=>simp only [hg,Bool.false_eq_true,if_false] at hh ⊢; exact ⟨hh.1 w hw,hK _ _ hw hh.2⟩
theorem read_any {Q : Act → Prop} {Q' : Exit → Act → World → Prop} (hn : noDefer ops = true) (hQ : ∀ a w,C w → Q a → Q' .normal a w) : ∀ (fuel : Nat) (listed : Array Bool) (a : Act) (w : World),C w →
  wpAnyQIn F n P .any ops C Q fuel listed a → wpAnyIn F n P .any ops Q' fuel listed a w
 | 0,_,_,_,hw,h=>⟨h.1,hQ _ _ hw h.2⟩
 | fuel + 1,_,_,_,hw,h=>⟨fun h0=>hQ _ _ hw (h.1 h0),fun i hi=>read_at hn hw (fun a' w' hw'=>read_any hn hQ fuel _ a' w' hw') (h.2 i hi)⟩
end
theorem wpIn_region_reads {F : Fence} {n : Nat} {P : Program} {id : Nat} {Q : Exit → Act → World → Prop} {a : Act} {w : World} {l : List Oper} (hm : P.follows .mixedOrders = true) (hB : Region.lexB .any l.toArray = true) (hn : noDefer l.toArray = true)
  (h : wpQuietIn F n P l.toArray (fun w'=>∃ n,w' = w.drewN n) (fun a'=>∀ w',(∃ n,w' = w.drewN n) → Q .normal a' w') l a) : (Code.region id l.toArray true).wpIn F n P Q a w:=by
 simp only [Region.lexB,Bool.and_eq_true] at hB
 refine wpIn_region_any hm (read_any (C:=fun w'=>∃ n,w' = w.drewN n) (Q:=fun a'=>∀ w',(∃ n,w' = w.drewN n) → Q .normal a' w') hn (fun _ w' hw' h=>h w' hw') _ _ _ _ ⟨1,rfl⟩ ?_)
 have:=wpAnyQIn_lex (F:=F) (n:=n) (C:=fun w'=>∃ n,w' = w.drewN n) (md:=.any) hB.1 l 0 (Array.replicate l.length false) a (by simp) (by simpa using hB.2) h
 simpa using this
end LM
namespace LM
section
variable {F : Fence} {n : Nat} {P : Program} {ops : Array Oper} {C : World → Prop} {md : Region.Mode}
def firstReads (F : Fence) (n : Nat) (P : Program) (md : Region.Mode) (ops : Array Oper) (C : World → Prop) (m : Nat) (L : Array Bool → Act → Prop) : Nat → Array Bool → Act → Prop
 | 0,listed,a=>L listed a
 | f + 1,listed,a=>Region.ready md ops listed ≠ []∧∀ i ∈ Region.ready md ops listed,i < m∧qOpIn F n P ops C i (firstReads F n P md ops C m L f (listed.setIfInBounds i true)) a
theorem any_of_firstReads {m g : Nat} {L : Array Bool → Act → Prop} {Q' : Exit → Act → World → Prop} (hn : noDefer ops = true) (hL : ∀ listed a w,C w → L listed a → wpAnyIn F n P md ops Q' g listed a w) :
  ∀ (f : Nat) (listed : Array Bool) (a : Act) (w : World),C w → firstReads F n P md ops C m L f listed a → wpAnyIn F n P md ops Q' (f + g) listed a w
 | 0,listed,a,w,hw,h=>by rw [Nat.zero_add]; exact hL _ _ _ hw h
 | f + 1,listed,a,w,hw,h=>by
  rw [show f + 1 + g = (f + g) + 1 by omega]
  exact ⟨fun h0=>absurd h0 h.1,fun i hi=>read_at hn hw (fun a' w' hw' h'=>any_of_firstReads hn hL f _ a' w' hw' h') (h.2 i hi).2⟩
theorem firstReads_take {m i : Nat} {oi : Oper} {v : Value} {L : Array Bool → Act → Prop} (hi : ops[i]? = some oi) (hsel : ∀ (j : Nat) (o : Oper) cs b,ops[j]? = some o → o.op ≠ .select cs b)
  (hs : Region.sinkB md ops m = true) (hc : Region.chainB md ops m = true) (hm : m < ops.size) (him : i < m) (hdone : ∀ listed a,L listed a → ∀ j ∈ Region.ready md ops listed,m ≤ j) :
  ∀ (f : Nat) (listed : Array Bool) (a : Act),HeadInv md ops m listed →
   (∀ j oj,ops[j]? = some oj → j ≠ i → listed.getD j true = false → (∀ e ∈ oj.after,Region.binds md e = true → e.on ≠ i) → oi.apart ops oj = true) →
   i ∈ Region.ready md ops listed → YieldsQuiet F n P ops C oi v a →
   firstReads F n P md ops C m L f (listed.setIfInBounds i true) (a.put oi.dst v) → firstReads F n P md ops C m L (f + 1) listed a:=by
 intro f
 induction f with
 | zero =>
  intro listed a inv _ hr hy H
  have hun:=(mem_ready.1 hr).1
  refine ⟨fun h=>(by rw [h] at hr; cases hr),fun j hj=>?_⟩
  have hjm : j < m:=Nat.lt_of_not_le fun h=>tail_waits hs hc hm inv _ i rfl him hun j h hj
  refine ⟨hjm,?_⟩
  by_cases hji : j = i
  ·subst hji; exact hy.qOpIn hi H
  ·have:=hdone _ _ H j (ready_mono hj hji)
   omega
 | succ f ih =>
  intro listed a inv hfree hr hy H
  have hun:=(mem_ready.1 hr).1
  refine ⟨fun h=>(by rw [h] at hr; cases hr),fun j hj=>?_⟩
  have hjm : j < m:=Nat.lt_of_not_le fun h=>tail_waits hs hc hm inv _ i rfl him hun j h hj
  refine ⟨hjm,?_⟩
  by_cases hji : j = i
  ·subst hji; exact hy.qOpIn hi H
  ·obtain ⟨hjun,oj,hoj,hall⟩:=mem_ready.1 hj
   have hnot : ∀ e ∈ oj.after,Region.binds md e = true → e.on ≠ i:=fun e he hb heq=>by
    have h1:=hall e he hb
    rw [heq,getD_both hun] at h1
    cases h1
   have h2:=qOpIn_put hoj (hfree j oj hoj hji hjun hnot) (fun cs b=>hsel i oi cs b hi) (fun cs b=>hsel j oj cs b hoj) hy (H.2 j (ready_mono hj hji)).2
   refine qOpIn_mono (fun a' h3=>ih (listed.setIfInBounds j true) a' (inv.set hj hjm) (fun k ok hk hki hkun hno=>hfree k ok hk hki ?_ hno) (ready_mono hr (Ne.symm hji)) h3.1 ?_) h2
   ·by_cases hjk : j = k
    ·subst hjk; exact hjun
    ·rw [getD_set_ne true hjk] at hkun; exact hkun
   ·rw [Array.setIfInBounds_comm _ _ hji]
    exact h3.2
theorem firstReads_lex {m g : Nat} {Lq : Act → Prop} (hsel : Region.noSelect ops = true) (hs : Region.sinkB md ops m = true) (hc : Region.chainB md ops m = true) (hm : m < ops.size) :
  ∀ (l : List Oper) (k : Nat) (listed : Array Bool) (a : Act),(∀ j,j < l.length → l[j]? = ops[k + j]?) → k + l.length = m → HeadInv md ops m listed →
  Region.lexHead md ops g l.length k listed = true → wpQuietIn F n P ops C Lq l a →
  firstReads F n P md ops C m (fun listed' a'=>Region.seqB md ops g m listed' = true∧Lq a') l.length listed a
 | [],k,listed,a,_,hk,_,hB,h=>by
  have e : k = m:=by simpa using hk
  subst e
  exact ⟨by simpa [Region.lexHead] using hB,h⟩
 | o :: l,k,listed,a,hl,hk,inv,hB,h=>by
  have h0 : ops[k]? = some o:=by simpa using (hl 0 (by simp)).symm
  simp only [List.length_cons,Region.lexHead,Bool.and_eq_true] at hB
  obtain ⟨⟨hr,hf⟩,hB'⟩:=hB
  have hkm : k < m:=by simp only [List.length_cons] at hk; omega
  have hr' : k ∈ Region.ready md ops listed:=by simpa using hr
  have hst : qOpIn F n P ops C k (wpQuietIn F n P ops C Lq l) a:=by unfold qOpIn; simp only [h0]; exact h
  obtain ⟨v,hy,hK⟩:=yieldsQuiet_of_qOpIn h0 hst
  exact firstReads_take h0 (Region.noSelect_spec hsel) hs hc hm hkm (fun listed' a' hL=>seqB_ready hL.1) l.length listed a inv (Region.free_spec h0 hf) hr' hy
   (firstReads_lex hsel hs hc hm l (k + 1) _ _ (fun j hj=>by have:=hl (j + 1) (by simp; omega); simpa [Nat.add_assoc,Nat.add_comm 1 j] using this) (by simp only [List.length_cons] at hk; omega) (inv.set hr' hkm) hB' hK)
theorem any_of_seq {Q' : Exit → Act → World → Prop} : ∀ (l : List Oper) (k : Nat) (listed : Array Bool) (a : Act) (w : World),(∀ j,l[j]? = ops[k + j]?) →
  Region.seqB md ops l.length k listed = true → wpListIn F n P ops Q' l a w → wpAnyIn F n P md ops Q' l.length listed a w
 | [],_,_,_,_,_,hB,h=>⟨by simpa [Region.seqB] using hB,h⟩
 | o :: l,k,listed,a,w,hl,hB,h=>by
  have h0 : ops[k]? = some o:=by simpa using (hl 0).symm
  simp only [List.length_cons,Region.seqB,Bool.and_eq_true,decide_eq_true_eq] at hB
  refine ⟨fun h1=>(by rw [hB.1] at h1; cases h1),fun i hi=>?_⟩
  rw [hB.1] at hi
  have hik : i = k:=by simpa using hi
  subst hik
  have hw : wpOpIn F n P ops Q' i (wpListIn F n P ops Q' l) a w:=by unfold wpOpIn; simp only [h0]; exact h
  exact wpOpIn_mono (fun a' w' h'=>any_of_seq l (i + 1) _ a' w' (fun j=>by have:=hl (j + 1); simpa [Nat.add_assoc,Nat.add_comm 1 j] using this) hB.2 h') hw
end
theorem wpIn_region_reads_tail {F : Fence} {n : Nat} {P : Program} {id : Nat} {Q : Exit → Act → World → Prop} {a : Act} {w : World} {l : List Oper} (m : Nat) (hm : P.follows .mixedOrders = true) (hB : Region.lexTailB .any l.toArray m = true) (hn : noDefer l.toArray = true)
  (h : wpQuietIn F n P l.toArray (fun w'=>∃ n,w' = w.drewN n) (fun a'=>∀ w',(∃ n,w' = w.drewN n) → wpListIn F n P l.toArray Q (l.drop m) a' w') (l.take m) a) : (Code.region id l.toArray true).wpIn F n P Q a w:=by
 simp only [Region.lexTailB,Bool.and_eq_true,decide_eq_true_eq] at hB
 obtain ⟨⟨⟨⟨hsel,hml⟩,hs⟩,hc⟩,hlex⟩:=hB
 have hml' : m < l.length:=by simpa using hml
 have htl : (l.take m).length = m:=by simp; omega
 have hdl : (l.drop m).length = l.toArray.size - m:=by simp
 have inv0 : HeadInv .any l.toArray m (Array.replicate l.toArray.size false) :=
  ⟨by simp,fun j oj _ hl=>(by rw [getD_replicate_false] at hl; cases hl),fun t _ ht=>getD_in (by simpa using ht) (getD_replicate_false _ _)⟩
 have H:=firstReads_lex (md:=.any) (g:=l.toArray.size - m) hsel hs hc hml (l.take m) 0 _ a (fun j hj=>by
  have hj' : j < m:=by rw [htl] at hj; exact hj
  simp [hj']) (by simpa using htl) inv0 (by rw [htl]; exact hlex) h
 refine wpIn_region_any hm ?_
 have:=any_of_firstReads (Q':=Q) (g:=l.toArray.size - m) hn (fun listed a' w' hw' hL=>by
  have:=any_of_seq (F:=F) (n:=n) (P:=P) (md:=.any) (Q':=Q) (l.drop m) m listed a' w' (fun j=>by simp [List.getElem?_drop]) (by rw [hdl]; exact hL.1) (hL.2 w' hw')
  rwa [hdl] at this) _ _ _ _ ⟨1,rfl⟩ H
 rw [htl,show m + (l.toArray.size - m) = l.toArray.size by omega] at this
 exact this
theorem quiet_round {P : Program} {f : FuncId} {args : Array Value} {w : World} {k r : Nat} {v : Value} (l : Nat)
  (h : Calls P f args (w.drewN k) fun e w'=>e = .returned v∧w.drewN k = w') : CallsIn (Fence.wide.inRound l) r P f args (w.drewN k) fun e w''=>e = .returned v∧∃ m,w'' = w.drewN m :=
 CallsIn.inRound l (callsIn_wide.2 (h.mono fun _ _ ⟨he,hw⟩=>⟨he,k,hw.symm⟩))
theorem round_fn (l : Nat) (f : FuncId) : (Fence.wide.inRound l).fn f = True:=eq_true trivial
theorem wide_fn (f : FuncId) : Fence.wide.fn f = True:=eq_true trivial
end LM
namespace LM
section
variable {F : Fence} {n : Nat} {P : Program} {ops : Array Oper} {C : World → Prop} {md : Region.Mode} {Q : Exit → Act → World → Prop} {E : Nat → Bool}
end
end LM
end Go.Proofs.YtaonablbgicmpaaGreatDoor
