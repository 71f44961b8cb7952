/- A region that draws its order and only reads, inside the round of a loop over a function: one walk in the text's order serves every order, since none of its operations defers a call. -/
import Derived.Sort.QuietIn
import Derived.RangeFuncNested
import Derived.Test.YtkkogmgboehfdaaDoorLimbB
namespace Go.Proofs.YtkkogmgboehfdaaDoor
open Go Go.RowKit
namespace LM

/-- no operation defers a call -/
def noDefer (ops : Array Oper) : Bool := ops.all fun o => match o.op with | .defer _ => false | _ => true

section
variable {F : Fence} {n : Nat} {P : Program} {ops : Array Oper} {C : World → Prop}

theorem noDefer_spec (h : noDefer ops = true) {i : Nat} {o : Oper} (ho : ops[i]? = some o) : ∀ c, o.op ≠ .defer c := by
  intro c hc
  obtain ⟨hi, e⟩ := Array.getElem?_eq_some_iff.1 ho
  have h1 := Array.all_eq_true.1 h i hi
  rw [e, hc] at h1
  cases h1

theorem read_op {o : Oper} {a : Act} {K : Act → Prop} {K' : Act → World → Prop} {Q' : Exit → Act → World → Prop} {w : World} (hd : ∀ c, o.op ≠ .defer c) (hw : C w) (hK : ∀ a w', C w' → K a → K' a w')
    (ha : o.askedIn F P a C) (hh : o.quietIn F n P a C K) : o.wpIn F n P a w K' Q' := by
  obtain ⟨v, h1, h2⟩ := hh
  have h3 := h1 w hw
  unfold Oper.quietAtIn at h3
  unfold Oper.wpIn
  rw [Oper.semAt_eq _ _ _ hd]
  refine ⟨ha w hw, ?_⟩
  generalize (execOp a.eval o).run P w = r at *
  match r, h3 with
  | .ok (.value _) _, h3 => obtain ⟨rfl, rfl⟩ := h3; exact hK _ _ hw h2
  | .ok .skip _, h3 => obtain ⟨rfl, rfl⟩ := h3; exact hK _ _ hw h2
  | .ok (.enter _ _) _, h3 => obtain ⟨rfl, hr, hc⟩ := h3; exact ⟨hr, hc.mono fun e w'' hp => by rw [hp.1]; exact hK _ _ hp.2 h2⟩

theorem read_at {i : Nat} {a : Act} {K : Act → Prop} {K' : Act → World → Prop} {Q' : Exit → Act → World → Prop} {w : World} (hn : noDefer ops = true) (hw : C w) (hK : ∀ a w', C w' → K a → K' a w')
    (hh : qOpIn F n P ops C i K a) : wpOpIn F n P ops Q' i K' a w := by
  unfold qOpIn at hh
  unfold wpOpIn
  cases ho : ops[i]? with
  | none => simp only [ho] at hh ⊢; exact hK _ _ hw hh
  | some o =>
    simp only [ho] at hh ⊢
    cases hg : Region.wanted o (yielded ops a.tmps) with
    | true => simp only [hg, if_true] at hh ⊢; exact read_op (noDefer_spec hn ho) hw hK hh.1 hh.2
    | false => simp only [hg, Bool.false_eq_true, if_false] at hh ⊢; exact ⟨hh.1 w hw, hK _ _ hw hh.2⟩

theorem read_any {Q : Act → Prop} {Q' : Exit → Act → World → Prop} (hn : noDefer ops = true) (hQ : ∀ a w, C w → Q a → Q' .normal a w) : ∀ (fuel : Nat) (listed : Array Bool) (a : Act) (w : World), C w →
    wpAnyQIn F n P .any ops C Q fuel listed a → wpAnyIn F n P .any ops Q' fuel listed a w
  | 0, _, _, _, hw, h => ⟨h.1, hQ _ _ hw h.2⟩
  | fuel + 1, _, _, _, hw, h => ⟨fun h0 => hQ _ _ hw (h.1 h0), fun i hi => read_at hn hw (fun a' w' hw' => read_any hn hQ fuel _ a' w' hw') (h.2 i hi)⟩
end

theorem wpIn_region_reads {F : Fence} {n : Nat} {P : Program} {id : Nat} {Q : Exit → Act → World → Prop} {a : Act} {w : World} {l : List Oper} (hm : P.follows .mixedOrders = true) (hB : Region.lexB .any l.toArray = true) (hn : noDefer l.toArray = true)
    (h : wpQuietIn F n P l.toArray (fun w' => ∃ n, w' = w.drewN n) (fun a' => ∀ w', (∃ n, w' = w.drewN n) → Q .normal a' w') l a) : (Code.region id l.toArray true).wpIn F n P Q a w := by
  simp only [Region.lexB, Bool.and_eq_true] at hB
  refine wpIn_region_any hm (read_any (C := fun w' => ∃ n, w' = w.drewN n) (Q := fun a' => ∀ w', (∃ n, w' = w.drewN n) → Q .normal a' w') hn (fun _ w' hw' h => h w' hw') _ _ _ _ ⟨1, rfl⟩ ?_)
  have := wpAnyQIn_lex (F := F) (n := n) (C := fun w' => ∃ n, w' = w.drewN n) (md := .any) hB.1 l 0 (Array.replicate l.length false) a (by simp) (by simpa using hB.2) h
  simpa using this

end LM
end Go.Proofs.YtkkogmgboehfdaaDoor
