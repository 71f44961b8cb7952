/- Walks of package limb: divideBy: a number is divided in its place by a limb. -/
import Derived.Test.YtpoojlnndgoeoaaGreatDoorLimbO
import Derived.Test.YtpoojlnndgoeoaaGreatDoorLimbMath
import Derived.Test.YtpoojlnndgoeoaaGreatDoorLimbTake
namespace Go.Proofs.YtpoojlnndgoeoaaGreatDoor
open Go.RowKit Go.Shelf
attribute [local go_sem] Oper.semAt_some
namespace LM
attribute [local go_sem] round_fn wide_fn

theorem div_lt {h l n : Nat} (hn : h < n) (hl : l < 4294967296) : (h * 4294967296 + l) / n < 4294967296 := by
  rw [Nat.div_lt_iff_lt_mul (by omega), Nat.mul_comm]
  have := Nat.mul_le_mul_right 4294967296 (show h + 1 ≤ n from hn)
  omega

def quoOf (h l n : Nat) : Nat := (h * 4294967296 + l) / n
def remOf (h l n : Nat) : Nat := (h * 4294967296 + l) % n

theorem quiet_roundE {P : Program} {f : FuncId} {args : Array Value} {w : World} {k r : Nat} {v : Value} (l : Nat)
    (h : Calls P f args (w.drewN k) fun e w' => e = .returned v ∧ ∃ q, w' = (w.drewN k).drewN q) : CallsIn (Fence.wide.inRound l) r P f args (w.drewN k) fun e w'' => e = .returned v ∧ ∃ m, w'' = w.drewN m :=
  CallsIn.inRound l (callsIn_wide.2 (h.mono fun _ _ ⟨he, q, hw⟩ => ⟨he, k + q, by rw [hw, World.drewN_drewN]⟩))
theorem Blk.kept {W W' : World} {g : Nat} {cs : List Value} {row : Option Nat} (h : Blk W g cs) (hg : W.grownBy W' row) (hr : ∀ r, row = some r → ∃ o : Obj, W.heap[r]? = some o ∧ o.isCells = false) : Blk W' g cs :=
  h.grown hg fun e => by
    obtain ⟨o, ho, hc⟩ := hr g e.symm
    unfold Blk at h; rw [h] at ho; injection ho with ho; subst ho; cases hc
theorem only_row {w W W' : World} {g : Nat} {row : Option Nat} (h : w.grownBy W (some g)) (hg : W.grownBy W' row) (hr : ∀ r, row = some r → w.heap.size ≤ r) : w.grownBy W' (some g) :=
  ⟨hg.os.trans h.os, hg.tape.trans h.tape, hg.output.trans h.output, Nat.le_trans h.size hg.size, fun i hi hne => (hg.block i (Nat.lt_of_lt_of_le hi h.size) (fun e => by have := hr i e.symm; omega)).trans (h.block i hi hne)⟩
theorem U_set (xs post : List Nat) (j y : Nat) (hj : j < xs.length) : (U (xs ++ post)).set j (.int .u32 (y : Int)) = U (xs.set j y ++ post) := by
  simp only [U, List.map_append]
  rw [List.set_append_left _ _ (by simpa using hj), List.map_set]
theorem set_at {xs qs : List Nat} {j q : Nat} (hj : j < xs.length) : (xs.take (j + 1) ++ qs).set j q = xs.take j ++ q :: qs := by
  rw [List.take_succ_eq_append_getElem hj, List.append_assoc, List.set_append_right _ _ (by simp; omega)]
  simp [Nat.min_eq_left (Nat.le_of_lt hj)]
theorem Lm.set_ {xs : List Nat} (h : Lm xs) {j y : Nat} (hy : y < 4294967296) : Lm (xs.set j y) := by
  intro z hz
  rcases List.mem_or_eq_of_mem_set hz with h1 | rfl
  · exact h z h1
  · exact hy
theorem db_val {xs qs : List Nat} {j h n : Nat} (hj : j < xs.length) (hv : val (xs.drop (j + 1)) = val qs * n + h) :
    val (xs.drop j) = val (quoOf h (xs[j]?.getD 0) n :: qs) * n + remOf h (xs[j]?.getD 0) n := by
  rw [drop_cons_get xs j hj, val, val, hv]
  generalize xs[j]?.getD 0 = x
  have e := Nat.div_add_mod (h * 4294967296 + x) n
  unfold quoOf remOf
  generalize (h * 4294967296 + x) / n = q at *
  generalize (h * 4294967296 + x) % n = r at *
  grind

/-- what stands between two rounds -/
def DbI (w : World) (g cap : Nat) (xs post : List Nat) (n : Nat) (pre : List (Plc xs.length fun _ _ => True)) (W : World) : Prop :=
  ∃ (cur : List Nat) (h : Nat), cur.length = xs.length ∧ Lm cur ∧ h < n ∧ Blk W g (U (cur ++ post)) ∧ W.cell? ⟨w.heap.size, 0, none⟩ = some (.slice (some ⟨g, 0, none⟩) xs.length cap) ∧
    W.cell? ⟨w.heap.size + 1, 0, none⟩ = some (.int .u32 (n : Int)) ∧ W.cell? ⟨w.heap.size + 1 + 1, 0, none⟩ = some (.int .u32 (h : Int)) ∧ W.frozen? ⟨w.heap.size + 1 + 1, 0, none⟩ = false ∧ w.grownBy W (some g) ∧
    (pre.map plc = downs xs.length pre.length → pre.length ≤ xs.length → ∃ qs, cur = xs.take (xs.length - pre.length) ++ qs ∧ val (xs.drop (xs.length - pre.length)) = val qs * n + h)
theorem DbI.own {w : World} {g cap : Nat} {xs post : List Nat} {n B : Nat} (hB : w.heap.size ≤ B) : OwnFrom B (DbI w g cap xs post n) := fun _ _ _ _ hs hg hr => by
  obtain ⟨cur, h, a1, a2, a3, a4, a5, a6, a7, a8, a9, a10⟩ := hs
  have hr2 := fun r e => (hr r e).2
  exact ⟨cur, h, a1, a2, a3, a4.kept hg hr2, cell_kept a5 hg hr2, cell_kept a6 hg hr2, cell_kept a7 hg hr2, (frozen_kept a7 hg hr2).trans a8, only_row a9 hg (fun r e => Nat.le_trans hB (hr r e).1), a10⟩

theorem db_next {xs cur : List Nat} {n h : Nat} {pre : List (Plc xs.length fun _ _ => True)} {x : Plc xs.length fun _ _ => True}
    (ho : pre.map plc = downs xs.length pre.length → pre.length ≤ xs.length → ∃ qs, cur = xs.take (xs.length - pre.length) ++ qs ∧ val (xs.drop (xs.length - pre.length)) = val qs * n + h) :
    (pre ++ [x]).map plc = downs xs.length (pre ++ [x]).length → (pre ++ [x]).length ≤ xs.length →
      ∃ qs, cur.set x.1.1 (quoOf h (cur[x.1.1]?.getD 0) n) = xs.take (xs.length - (pre ++ [x]).length) ++ qs ∧ val (xs.drop (xs.length - (pre ++ [x]).length)) = val qs * n + remOf h (cur[x.1.1]?.getD 0) n := by
  intro hd hl
  rw [List.length_append, List.length_singleton] at hd hl ⊢
  rw [downs_succ, List.map_append] at hd
  obtain ⟨e1, e2⟩ := List.append_inj' hd rfl
  have e3 : x.1.1 = xs.length - 1 - pre.length := by simpa [plc] using e2
  obtain ⟨qs, e4, e5⟩ := ho e1 (by omega)
  have hj : x.1.1 < xs.length := x.2.1
  have hm : xs.length - pre.length = x.1.1 + 1 := by omega
  have hm2 : xs.length - (pre.length + 1) = x.1.1 := by omega
  rw [hm] at e4 e5
  rw [hm2]
  have hc : cur[x.1.1]?.getD 0 = xs[x.1.1]?.getD 0 := by
    rw [e4, List.getElem?_append_left (by simp; omega), List.getElem?_take, if_pos (by omega)]
  rw [hc]
  exact ⟨quoOf h (xs[x.1.1]?.getD 0) n :: qs, by rw [e4, set_at hj], db_val hj e5⟩

end LM
end Go.Proofs.YtpoojlnndgoeoaaGreatDoor
