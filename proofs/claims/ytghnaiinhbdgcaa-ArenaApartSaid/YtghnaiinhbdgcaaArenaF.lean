/- Walks of package arena: blocks that are empty; Free, Empty, takeBlock, takeHole. -/
import Derived.Test.YtghnaiinhbdgcaaArenaE
namespace Go.Proofs.Ytghnaiinhbdgcaa
open Go Go.RowKit
namespace LM
set_option linter.unusedVariables false

section
variable {P : Program} (w : World)
theorem run_equalIn_bools (d : Nat) (t e : TypeId) (n : Nat) (ht : P.underlying t = some (.array n e)) (he : P.underlying e = some .bool) (hsz : ∀ w, (sizeOf e).run P w = .ok 1 w)
    (f g : Nat → Bool) (xs ys : Array Value) (hx : ∀ i, i < n → xs[i]? = some (.bool (f i))) (hy : ∀ i, i < n → ys[i]? = some (.bool (g i))) :
    (Op.equalIn (d + 2) t (.agg xs) (.agg ys)).run P w = .ok ((List.range n).all fun i => f i == g i) w := by
  rw [List.range_eq_range', Op.equalIn]
  simp only [Sem.run_bind, run_underlying ht, Result.andThen_ok, hsz, Std.Legacy.Range.forIn_eq_forIn_range', Std.Legacy.Range.size, Nat.sub_zero, Nat.add_sub_cancel, Nat.div_one]
  have hl : ∀ i ∈ List.range' 0 n 1, i < n := fun i hi => by simpa using (List.mem_range'_1.1 hi).2
  generalize List.range' 0 n 1 = l at hl ⊢
  induction l with
  | nil => simp
  | cons i l ih =>
    have hi : i < n := hl i (by simp)
    have px : (part e xs (i * 1)).run P w = .ok (.bool (f i)) w := by
      simp [part, isAgg, run_underlying he, hx i hi]
    have py : (part e ys (i * 1)).run P w = .ok (.bool (g i)) w := by
      simp [part, isAgg, run_underlying he, hy i hi]
    have pe : (Op.equalIn (d + 1) e (.bool (f i)) (.bool (g i))).run P w = .ok (f i == g i) w := run_equalIn_bool w d e _ _ he
    simp only [List.forIn_cons, Sem.run_bind, px, py, pe, Result.andThen_ok, List.all_cons]
    cases hb : (f i == g i)
    · simp
    · simp only [Bool.not_true, Bool.false_eq_true, if_false, Sem.run_pure, Result.andThen_ok, Bool.true_and]
      exact ih fun j hj => hl j (by simp [hj])
end
/-- two rows are compared: one step -/
theorem wpList_eql_agg {P : Program} {w : World} {ops : Array Oper} {rest : List Oper} {o : Oper} {a : Act} {Q : Exit → Act → World → Prop} (hgd : o.guard = none) (t t' : TypeId) (x y : Operand) (ho : o.op = .binOp .eql t x y t')
    (xs ys : Array Value) (v : Bool) (hx : a.eval x = .agg xs) (hy : a.eval y = .agg ys) (hm : P.eqGuardType P.depth t = false) (hrun : (binOp .eql t (.agg xs) (.agg ys)).run P w = .ok (.bool v) w)
    (h : wpList P ops Q rest (a.put o.dst (.bool v)) w) : wpList P ops Q (o :: rest) a w := by
  refine wpList_plain hgd fun K hK => ?_
  have hg := run_eqGuard_agg (P := P) (w := w) .eql t x y xs ys hm
  generalize hX : Value.agg xs = X at hx hrun hg
  generalize hY : Value.agg ys = Y at hy hrun hg
  unfold Oper.wp
  simp only [execOp, ho, hx, hy, Sem.run_bind, hg, hrun, Result.andThen_ok, Sem.run_pure]
  exact hK _ _ h
theorem lines_guard : Try.prog.eqGuardType Try.prog.depth 50 = false := by kernel_rfl
/-- no line of a block -/
abbrev noL : Array Value := #[.bool false, .bool false, .bool false, .bool false, .bool false, .bool false, .bool false, .bool false, .bool false, .bool false, .bool false, .bool false, .bool false, .bool false, .bool false, .bool false]
theorem noL_at (i : Nat) (h : i < 16) : noL[i]? = some (.bool ((fun _ => false) i)) := by
  have e : noL = Array.replicate 16 (.bool false) := rfl
  rw [e, Array.getElem?_replicate, if_pos h]
theorem lines_eql (T : Nat → Bool) (j : Nat) (w : World) : (binOp .eql 50 (.agg (blV T j).toArray) (.agg noL)).run Try.prog w = .ok (.bool (emp T j)) w := by
  rw [run_eql_struct, run_equalIn_bools w 9998 50 4 16 arr_zero (by kernel_rfl) (fun w => by simp [sizeOf, typeInfo]; rfl) (fun i => T (16 * j + i)) (fun _ => false) _ _ (fun i hi => by rw [List.getElem?_toArray]; exact blV_at T j i hi) noL_at]
  have : ((List.range 16).all fun i => T (16 * j + i) == false) = emp T j := by
    rw [Bool.eq_iff_iff, emp_iff]
    simp
  rw [this]
  rfl

/-- a block without lines, as values -/
def noV : List Value := blV (fun _ => false) 0
theorem noV_len : noV.length = 16 := blV_len _ _
theorem noV_info : (Try.prog.info? 50).map (·.size) = some noV.length := blV_info _ _
theorem lines_eql2 (T : Nat → Bool) (j : Nat) (w : World) : (binOp .eql 50 (.agg (blV T j).toArray) (.agg noV.toArray)).run Try.prog w = .ok (.bool (emp T j)) w := by
  have e : noV.toArray = noL := rfl
  rw [e]
  exact lines_eql T j w
end LM
end Go.Proofs.Ytghnaiinhbdgcaa
