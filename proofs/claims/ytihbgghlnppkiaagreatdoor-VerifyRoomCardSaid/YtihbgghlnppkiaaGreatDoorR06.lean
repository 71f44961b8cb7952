import Derived.Sort.QuietIn
import Derived.RangeFuncNested
import Derived.Test.YtihbgghlnppkiaaGreatDoorR04
import Derived.StillTail
set_option linter.unusedVariables false
set_option linter.unusedSimpArgs false
set_option maxRecDepth 100000
set_option maxHeartbeats 16000000
namespace Go.Proofs.YtihbgghlnppkiaaGreatDoor
open Go Go.RowKit
namespace LM
def noDefer (ops : Array Oper) : Bool:=ops.all fun o=>match o.op with | .defer _=>false | _=>true
section
variable {F : Fence} {n : Nat} {P : Program} {ops : Array Oper} {C : World → Prop}
theorem noDefer_spec (h : noDefer ops = true) {i : Nat} {o : Oper} (ho : ops[i]? = some o) : ∀ c,o.op ≠ .defer c:=by
  intro c hc
  obtain ⟨hi,e⟩:=Array.getElem?_eq_some_iff.1 ho
  have h1:=Array.all_eq_true.1 h i hi
  rw [e,hc] at h1
  cases h1
end
end LM
namespace LM
section
variable {F : Fence} {n : Nat} {P : Program} {ops : Array Oper} {C : World → Prop} {md : Region.Mode}
end
theorem round_fn (l : Nat) (f : FuncId) : (Fence.wide.inRound l).fn f = True:=eq_true trivial
theorem wide_fn (f : FuncId) : Fence.wide.fn f = True:=eq_true trivial
end LM
namespace LM
section
variable {F : Fence} {n : Nat} {P : Program} {ops : Array Oper} {C : World → Prop} {md : Region.Mode} {Q : Exit → Act → World → Prop} {E : Nat → Bool}
def wpC (F : Fence) (n : Nat) (P : Program) (md : Region.Mode) (ops : Array Oper) (E : Nat → Bool) (C : World → Prop) (Q : Exit → Act → World → Prop) : Nat → Array Bool → Act → World → Prop
  | 0,listed,a,w=>Region.ready md ops listed = []∧Q .normal a w
  | f + 1,listed,a,w=>(Region.ready md ops listed = [] → Q .normal a w) ∧
      ∀ i ∈ Region.ready md ops listed,wpOpIn F n P ops Q i (fun a' w'=>(E i = false → C w')∧wpC F n P md ops E C Q f (listed.setIfInBounds i true) a' w') a w
theorem any_of_wpC : ∀ (f : Nat) (listed : Array Bool) (a : Act) (w : World),wpC F n P md ops E C Q f listed a w → wpAnyIn F n P md ops Q f listed a w
  | 0,_,_,_,h=>h
  | f + 1,_,_,_,h=>⟨h.1,fun i hi=>wpOpIn_mono (fun a' w' h'=>any_of_wpC f _ a' w' h'.2) (h.2 i hi)⟩
def Fix (P : Program) (ops : Array Oper) (C : World → Prop) (o : Oper) (v : Value) (a : Act) : Prop :=
  Region.wanted o (yielded ops a.tmps) = true∧∀ w,C w → (execOp a.eval o).run P w = .ok (.value v) w
theorem Fix.run {i : Nat} {o : Oper} {v : Value} {a : Act} {w : World} {K : Act → World → Prop} (hF : ∀ f,F.fn f) (hn : noDefer ops = true) (hi : ops[i]? = some o) (h : Fix P ops C o v a) (hw : C w) (hK : K (a.put o.dst v) w) :
    wpOpIn F n P ops Q i K a w:=by
  unfold wpOpIn
  simp only [hi,h.1,if_true]
  unfold Oper.wpIn
  rw [Oper.semAt_eq _ _ _ (noDefer_spec hn hi),h.2 w hw]
  exact ⟨fun f _=>hF f,hK⟩
theorem upon_put {o : Oper} {a : Act} {d : Option Tmp} {v : Value} {G : Act → Prop} {K : Act → World → Prop} {r : Result Next} (hc : ∀ (a : Act) u,(a.put d v).put o.dst u = (a.put o.dst u).put d v)
    (hQ : ∀ c a w,Q (.panic c) (a.put d v) w → Q (.panic c) a w) (hG : ∀ u,G (a.put o.dst u)) (hD : ∀ df,G ({ a with defers:=df :: a.defers }.put o.dst undef)) (h : o.uponIn F n P (a.put d v) K Q r) : o.uponIn F n P a (fun a' w'=>G a'∧K (a'.put d v) w') Q r:=by
  match r,h with
  | .ok (.value u) _,h=>exact ⟨hG u,by rw [← hc]; exact h⟩
  | .ok .skip _,h=>exact ⟨hG _,by rw [← hc]; exact h⟩
  | .ok (.defer df) _,h=>exact ⟨hD df,by rw [← hc,← Act.put_defers]; exact h⟩
  | .ok (.enter _ _) _,h =>
    refine ⟨h.1,CallsIn.mono h.2 fun e w'' he=>?_⟩
    cases e with
    | returned u=>exact ⟨hG u,by rw [← hc]; exact he⟩
    | panicked c=>exact hQ _ _ _ he
    | outgrown=>exact he
  | .ok (.row _ _) _,h=>exact ⟨h.1,RowsIn.mono h.2 fun u w'' he=>⟨hG u,by rw [← hc]; exact he⟩⟩
  | .ok (.round _ _ _ _ _) _,h =>
    refine ⟨h.1,RoundIn.mono h.2 fun e w'' he=>?_⟩
    cases e with
    | returned u=>exact ⟨hG u,by rw [← hc]; exact he⟩
    | panicked c=>exact hQ _ _ _ he
    | outgrown=>exact he
  | .halt (.panic _) _,h=>exact hQ _ _ _ h
theorem op_put {j : Nat} {oi oj : Oper} {v : Value} (hF : ∀ f,F.fn f) (hn : noDefer ops = true) (hj : ops[j]? = some oj) (hap : oi.apart ops oj = true)
    (hsi : ∀ cs b,oi.op ≠ .select cs b) (hsj : ∀ cs b,oj.op ≠ .select cs b) (hQ : ∀ c a w,Q (.panic c) (a.put oi.dst v) w → Q (.panic c) a w) {K : Act → World → Prop} {a : Act} {w : World}
    (hy : Fix P ops C oi v a) (h : wpOpIn F n P ops Q j K (a.put oi.dst v) w) : wpOpIn F n P ops Q j (fun a' w'=>Fix P ops C oi v a'∧K (a'.put oi.dst v) w') a w:=by
  obtain ⟨h1,h2,h3⟩:=Oper.apart_spec hap
  have keep : ∀ (a : Act),Fix P ops C oi v a → ∀ u,Fix P ops C oi v (a.put oj.dst u):=fun a hy u =>
    ⟨by rw [wanted_put oi a oj.dst u h3]; exact hy.1,fun w hw=>by rw [execOp_put oi hsi a oj.dst u h3]; exact hy.2 w hw⟩
  have hsp:=noDefer_spec hn hj
  unfold wpOpIn at *
  simp only [hj] at *
  rw [wanted_put oj a oi.dst v h1] at h
  cases hg : Region.wanted oj (yielded ops a.tmps) with
  | true =>
    simp only [hg,if_true] at h ⊢
    unfold Oper.wpIn at *
    rw [Oper.semAt_eq _ _ _ hsp] at h ⊢
    rw [execOp_put oj hsj a oi.dst v h1] at h
    exact ⟨fun f _=>hF f,upon_put (fun a u=>Act.put_comm a v u h2) hQ (keep a hy) (fun df=>keep { a with defers:=df :: a.defers } hy _) h.2⟩
  | false =>
    simp only [hg,Bool.false_eq_true,if_false] at h ⊢
    exact ⟨fun f _=>hF f,keep a hy _,by rw [← Act.put_comm a v undef h2]; exact h.2⟩
theorem wpC_first {i : Nat} {oi : Oper} {v : Value} (hF : ∀ f,F.fn f) (hn : noDefer ops = true) (hi : ops[i]? = some oi) (hsel : ∀ (j : Nat) (o : Oper) cs b,ops[j]? = some o → o.op ≠ .select cs b)
    (hQ : ∀ c a w,Q (.panic c) (a.put oi.dst v) w → Q (.panic c) a w) (hE : ∀ j oj,ops[j]? = some oj → E j = true → ∃ e ∈ oj.after,Region.binds md e = true∧e.on = i) (hEi : E i = false) :
    ∀ (fuel : Nat) (listed : Array Bool) (a : Act) (w : World),
      (∀ j oj,ops[j]? = some oj → j ≠ i → listed.getD j true = false → (∀ e ∈ oj.after,Region.binds md e = true → e.on ≠ i) → oi.apart ops oj = true) →
      i ∈ Region.ready md ops listed → Fix P ops C oi v a → C w →
      wpC F n P md ops E C Q fuel (listed.setIfInBounds i true) (a.put oi.dst v) w → wpC F n P md ops E C Q (fuel + 1) listed a w:=by
  intro fuel
  induction fuel with
  | zero =>
    intro listed a w _ hr hy hw H
    refine ⟨fun h=>(by rw [h] at hr; cases hr),fun j hj=>?_⟩
    by_cases hji : j = i
    · subst hji; exact hy.run hF hn hi hw ⟨fun _=>hw,H⟩
    · have:=ready_mono hj hji
      rw [H.1] at this
      cases this
  | succ fuel ih =>
    intro listed a w hfree hr hy hw H
    refine ⟨fun h=>(by rw [h] at hr; cases hr),fun j hj=>?_⟩
    by_cases hji : j = i
    · subst hji; exact hy.run hF hn hi hw ⟨fun _=>hw,H⟩
    · obtain ⟨hjun,oj,hoj,hall⟩:=mem_ready.1 hj
      have hun:=getD_both (mem_ready.1 hr).1
      have hnot : ∀ e ∈ oj.after,Region.binds md e = true → e.on ≠ i:=fun e he hb heq=>by
        have h1:=hall e he hb
        rw [heq,hun] at h1
        cases h1
      have hEj : E j = false:=by
        cases h : E j with
        | false=>rfl
        | true =>
          obtain ⟨e,he,hb,hon⟩:=hE j oj hoj h
          exact absurd hon (hnot e he hb)
      have h2:=op_put hF hn hoj (hfree j oj hoj hji hjun hnot) (fun cs b=>hsel i oi cs b hi) (fun cs b=>hsel j oj cs b hoj) hQ hy (H.2 j (ready_mono hj hji))
      have hfree' : ∀ k ok,ops[k]? = some ok → k ≠ i → (listed.setIfInBounds j true).getD k true = false →
          (∀ e ∈ ok.after,Region.binds md e = true → e.on ≠ i) → oi.apart ops ok = true:=fun k ok hk hki hkun hno=>by
        refine hfree k ok hk hki ?_ hno
        by_cases hjk : j = k
        · subst hjk; exact hjun
        · rw [getD_set_ne true hjk] at hkun; exact hkun
      refine wpOpIn_mono (fun a' w' h3=>⟨fun _=>h3.2.1 hEj,ih (listed.setIfInBounds j true) a' w' hfree' (ready_mono hr (Ne.symm hji)) h3.1 (h3.2.1 hEj) ?_⟩) h2
      rw [Array.setIfInBounds_comm _ _ hji]
      exact h3.2.2
end
def waitE (md : Region.Mode) (ops : Array Oper) (E : Nat → Bool) (i : Nat) : Bool:=!E i && (List.range ops.size).all fun j=>!E j || Region.waitsFor md ops j i
theorem wpC_take {F : Fence} {n : Nat} {P : Program} {ops : Array Oper} {C : World → Prop} {md : Region.Mode} {Q : Exit → Act → World → Prop} {E : Nat → Bool} {fuel : Nat} {listed : Array Bool} {a : Act} {w : World}
    (i : Nat) {oi : Oper} {v : Value} (hF : ∀ f,F.fn f) (hn : noDefer ops = true) (hi : ops[i]? = some oi) (hs : Region.noSelect ops = true) (hf : Region.free md ops listed i = true) (hr : (Region.ready md ops listed).contains i = true)
    (hE : waitE md ops E i = true) (hQ : ∀ c a w,Q (.panic c) (a.put oi.dst v) w → Q (.panic c) a w) (hw : C w) (hy : Fix P ops C oi v a)
    (h : wpC F n P md ops E C Q fuel (listed.setIfInBounds i true) (a.put oi.dst v) w) : wpC F n P md ops E C Q (fuel + 1) listed a w:=by
  simp only [waitE,Bool.and_eq_true,Bool.not_eq_true'] at hE
  refine wpC_first hF hn hi (Region.noSelect_spec hs) hQ (fun j oj hj he=>?_) hE.1 fuel listed a w (Region.free_spec hi hf) (by simpa using hr) hy hw h
  have h1:=List.all_eq_true.1 hE.2 j (List.mem_range.2 (Array.getElem?_eq_some_iff.1 hj).1)
  rw [he] at h1
  obtain ⟨o',ho',e,he',hb,hon⟩:=Region.waitsFor_spec (by simpa using h1)
  rw [hj] at ho'; injection ho' with ho'; subst ho'
  exact ⟨e,he',hb,hon⟩
theorem wpC_only {F : Fence} {n : Nat} {P : Program} {ops : Array Oper} {C : World → Prop} {md : Region.Mode} {Q : Exit → Act → World → Prop} {E : Nat → Bool} {fuel : Nat} {listed : Array Bool} {a : Act} {w : World}
    (i : Nat) (hr : Region.ready md ops listed = [i]) (h : wpOpIn F n P ops Q i (fun a' w'=>(E i = false → C w')∧wpC F n P md ops E C Q fuel (listed.setIfInBounds i true) a' w') a w) : wpC F n P md ops E C Q (fuel + 1) listed a w :=
  ⟨fun h0=>(by rw [hr] at h0; cases h0),fun j hj=>by
    rw [hr] at hj
    have e : j = i:=by simpa using hj
    subst e; exact h⟩
theorem wpC_done {F : Fence} {n : Nat} {P : Program} {ops : Array Oper} {C : World → Prop} {md : Region.Mode} {Q : Exit → Act → World → Prop} {E : Nat → Bool} {listed : Array Bool} {a : Act} {w : World}
    (hr : Region.ready md ops listed = []) (h : Q .normal a w) : wpC F n P md ops E C Q 0 listed a w:=⟨hr,h⟩
theorem wpIn_region_C {F : Fence} {n : Nat} {P : Program} {id : Nat} {Q : Exit → Act → World → Prop} {a : Act} {w : World} {l : List Oper} (E : Nat → Bool) (C : World → Prop) (hm : P.follows .mixedOrders = true)
    (h : wpC F n P .any l.toArray E C Q l.length (Array.replicate l.length false) a w.drew) : (Code.region id l.toArray true).wpIn F n P Q a w :=
  wpIn_region_any hm (by have:=any_of_wpC _ _ _ _ h; simpa using this)
end LM
end Go.Proofs.YtihbgghlnppkiaaGreatDoor
