/- A region that draws its order and only reads, inside the round of a loop over a function: one walk in the text's order serves every order, since none of its operations defers a call. · A region that draws its order: first it only reads and calls what only reads, in whatever order; what is left then comes in the text's order. One walk serves every order, also inside the round of a loop over a function. · A region that draws its order and holds a call or a store: what only reads what nothing else in the region turns may be taken first, whatever the order. It serves inside the round of a loop over a function, too. -/
import Derived.Sort.QuietIn
import Derived.RangeFuncNested
import Derived.Test.YtpnjddfnlaonoaaGreatDoorK12
import Derived.StillTail
namespace Go.Proofs.YtpnjddfnlaonoaaGreatDoor
open Go Go.RowKit
namespace LM

/-- no operation defers a call -/
def noDefer (ops : Array Oper) : Bool := ops.all fun o => match o.op with | .defer _ => false | _ => true

section
variable {F : Fence} {n : Nat} {P : Program} {ops : Array Oper} {C : World → Prop}

theorem noDefer_spec (h : noDefer ops = true) {i : Nat} {o : Oper} (ho : ops[i]? = some o) : ∀ c, o.op ≠ .defer c := by
  intro c hc
  obtain ⟨hi, e⟩ := Array.getElem?_eq_some_iff.1 ho
  have h1 := Array.all_eq_true.1 h i hi
  rw [e, hc] at h1
  cases h1

end

end LM
end Go.Proofs.YtpnjddfnlaonoaaGreatDoor

namespace Go.Proofs.YtpnjddfnlaonoaaGreatDoor
open Go Go.RowKit
namespace LM

section
variable {F : Fence} {n : Nat} {P : Program} {ops : Array Oper} {C : World → Prop} {md : Region.Mode}

end

theorem round_fn (l : Nat) (f : FuncId) : (Fence.wide.inRound l).fn f = True := eq_true trivial
theorem wide_fn (f : FuncId) : Fence.wide.fn f = True := eq_true trivial

end LM
end Go.Proofs.YtpnjddfnlaonoaaGreatDoor

namespace Go.Proofs.YtpnjddfnlaonoaaGreatDoor
open Go Go.RowKit
namespace LM

section
variable {F : Fence} {n : Nat} {P : Program} {ops : Array Oper} {C : World → Prop} {md : Region.Mode} {Q : Exit → Act → World → Prop} {E : Nat → Bool}

/-- this operation is wanted, and yields this value as long as C holds -/
def Fix (P : Program) (ops : Array Oper) (C : World → Prop) (o : Oper) (v : Value) (a : Act) : Prop :=
  Region.wanted o (yielded ops a.tmps) = true ∧ ∀ w, C w → (execOp a.eval o).run P w = .ok (.value v) w

theorem Fix.run {i : Nat} {o : Oper} {v : Value} {a : Act} {w : World} {K : Act → World → Prop} (hF : ∀ f, F.fn f) (hn : noDefer ops = true) (hi : ops[i]? = some o) (h : Fix P ops C o v a) (hw : C w) (hK : K (a.put o.dst v) w) :
    wpOpIn F n P ops Q i K a w := by
  unfold wpOpIn
  simp only [hi, h.1, if_true]
  unfold Oper.wpIn
  rw [Oper.semAt_eq _ _ _ (noDefer_spec hn hi), h.2 w hw]
  exact ⟨fun f _ => hF f, hK⟩

end

end LM
end Go.Proofs.YtpnjddfnlaonoaaGreatDoor
