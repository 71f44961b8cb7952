/- Words for memory in the walks of package arena: blocks known whole by functions, an arena in memory, copy and clear of rows whose elements have many cells. -/
import Derived.Test.YtghnaiinhbdgcaaProg
import Derived.WalkKit
import Derived.WalkSpells
import Derived.WalkLawsBesides
import Derived.Lib.Hide
import Derived.Lib.SliceRun
import Derived.Lib.BufferMore
import Derived.Laws.Rows
import Derived.Laws.OwnMore
import Derived.Laws.CopyRow
import Derived.Laws.IdiomCopy
import Derived.Handy
import Derived.Deep.LoopGhost
import Derived.Deep.QuietTactic
import Derived.Deep.Draws
import Derived.BigQuiet
import Derived.Outline
import Derived.StillTailTactics
namespace Go.Proofs.Ytghnaiinhbdgcaa
open Go Go.RowKit
namespace LM
set_option linter.unusedVariables false

/-- all blocks but those listed stay -/
structure Mv (w w' : World) (L : List Nat) : Prop where
  os : w'.os = w.os
  tape : w'.tape = w.tape
  output : w'.output = w.output
  size : w.heap.size ≤ w'.heap.size
  keep : ∀ k, k < w.heap.size → k ∉ L → w'.heap[k]? = w.heap[k]?
theorem Mv.refl (w : World) (L : List Nat) : Mv w w L := ⟨rfl, rfl, rfl, Nat.le_refl _, fun _ _ _ => rfl⟩
theorem Mv.trans {w w1 w2 : World} {L : List Nat} (h : Mv w w1 L) (h' : Mv w1 w2 L) : Mv w w2 L :=
  ⟨h'.os.trans h.os, h'.tape.trans h.tape, h'.output.trans h.output, Nat.le_trans h.size h'.size, fun k hk hn => (h'.keep k (Nat.lt_of_lt_of_le hk h.size) hn).trans (h.keep k hk hn)⟩
theorem Mv.mono {w w' : World} {L L' : List Nat} (h : Mv w w' L) (hs : ∀ k ∈ L, k ∈ L') : Mv w w' L' := ⟨h.os, h.tape, h.output, h.size, fun k hk hn => h.keep k hk fun e => hn (hs k e)⟩
theorem Mv.drew {w w' : World} {L : List Nat} (h : Mv w w' L) : Mv w w'.drew L := ⟨h.os, h.tape, h.output, h.size, h.keep⟩
theorem Mv.drewN {w w' : World} {L : List Nat} (h : Mv w w' L) (n : Nat) : Mv w (w'.drewN n) L := ⟨h.os, h.tape, h.output, h.size, h.keep⟩
theorem Mv.alloc {w w' : World} {L : List Nat} (h : Mv w w' L) (o : Obj) : Mv w (w'.alloc o) L :=
  ⟨h.os, h.tape, h.output, Nat.le_trans h.size (by simp), fun k hk hn => (Below.heap_alloc w' o k (Nat.lt_of_lt_of_le hk h.size)).trans (h.keep k hk hn)⟩
theorem Mv.setCell {w w' : World} {L : List Nat} (h : Mv w w' L) {p : Addr} (hp : p.block ∈ L) (u : Value) : Mv w (w'.setCell p u) L :=
  ⟨h.os, h.tape, h.output, by simpa [World.setCell] using h.size, fun k hk hn => (Below.heap_setCell w' p u k (by rintro rfl; exact hn hp)).trans (h.keep k hk hn)⟩
theorem Mv.setNew {w w' : World} {L : List Nat} (h : Mv w w' L) {p : Addr} (hp : w.heap.size ≤ p.block) (u : Value) : Mv w (w'.setCell p u) L :=
  ⟨h.os, h.tape, h.output, by simpa [World.setCell] using h.size, fun k hk hn => (Below.heap_setCell w' p u k (by rintro rfl; omega)).trans (h.keep k hk hn)⟩
theorem Mv.of_below {w w' : World} (h : Below w.heap.size w w') (L : List Nat) : Mv w w' L := ⟨h.os, h.tape, h.output, h.size, fun k hk _ => h.block k hk⟩
theorem Mv.below {w w' : World} {L : List Nat} {B : Nat} (h : Mv w w' L) (hB : B ≤ w.heap.size) (hL : ∀ k ∈ L, B ≤ k) : Below B w w' := ⟨h.os, h.tape, h.output, h.size, fun k hk => h.keep k (Nat.lt_of_lt_of_le hk hB) fun e => absurd (hL k e) (by omega)⟩
theorem Mv.cell {w w' : World} {L : List Nat} (h : Mv w w' L) {b o : Nat} (hb : b < w.heap.size) (hn : b ∉ L) : w'.cell? ⟨b, o, none⟩ = w.cell? ⟨b, o, none⟩ := World.cell?_of_block (a := ⟨b, o, none⟩) (h.keep b hb hn)

/-- a block of n cells, told by a function -/
def RowF (w : World) (g n : Nat) (f : Nat → Value) : Prop := ∃ (cs : Array Value) (T : TypeId), w.heap[g]? = some (.cells cs T (0, 0)) ∧ cs.size = n ∧ ∀ i, i < n → cs[i]? = some (f i)
section
variable {w w' : World} {g n : Nat} {f : Nat → Value}
theorem RowF.lt (h : RowF w g n f) : g < w.heap.size := by
  obtain ⟨cs, T, h, -, -⟩ := h
  rcases Nat.lt_or_ge g w.heap.size with h2 | h2
  · exact h2
  · rw [Array.getElem?_eq_none h2] at h; cases h
theorem RowF.cell (h : RowF w g n f) {i : Nat} (hi : i < n) : w.cell? ⟨g, i, none⟩ = some (f i) := by
  obtain ⟨cs, T, h, -, h2⟩ := h
  rw [cell_of_row w g i cs T (0, 0) h]
  exact h2 i hi
theorem RowF.free (h : RowF w g n f) (i : Nat) : w.frozen? ⟨g, i, none⟩ = false := by
  obtain ⟨cs, T, h, -⟩ := h
  simp [World.frozen?, h]
theorem RowF.keep (h : RowF w g n f) (e : w'.heap[g]? = w.heap[g]?) : RowF w' g n f := by
  obtain ⟨cs, T, h, h2⟩ := h
  exact ⟨cs, T, e.trans h, h2⟩
theorem RowF.mv {L : List Nat} (h : RowF w g n f) (hm : Mv w w' L) (hn : g ∉ L) : RowF w' g n f := h.keep (hm.keep g h.lt hn)
theorem RowF.drew (h : RowF w g n f) : RowF w.drew g n f := h
theorem RowF.drewN (h : RowF w g n f) (k : Nat) : RowF (w.drewN k) g n f := h
theorem RowF.alloc (h : RowF w g n f) (o : Obj) : RowF (w.alloc o) g n f := h.keep (Below.heap_alloc w o g h.lt)
theorem RowF.far (h : RowF w g n f) {p : Addr} (hp : g ≠ p.block) (u : Value) : RowF (w.setCell p u) g n f := h.keep (Below.heap_setCell w p u g hp)
theorem RowF.eq {f' : Nat → Value} (h : RowF w g n f) (e : ∀ i, i < n → f i = f' i) : RowF w g n f' := by
  obtain ⟨cs, T, h1, h2, h3⟩ := h
  exact ⟨cs, T, h1, h2, fun i hi => (h3 i hi).trans (by rw [e i hi])⟩
theorem RowF.new (w : World) (cs : Array Value) (T : TypeId) (hs : cs.size = n) (hf : ∀ i, i < n → cs[i]? = some (f i)) : RowF (w.alloc (.cells cs T)) w.heap.size n f := ⟨cs, T, heap_alloc_new w _, hs, hf⟩
theorem RowF.set (h : RowF w g n f) {j : Nat} (v : Value) : RowF (w.setCell ⟨g, j, none⟩ v) g n (fun i => if i = j then v else f i) := by
  obtain ⟨cs, T, h1, h2, h3⟩ := h
  refine ⟨cs.setIfInBounds j v, T, Go.Lib.heap_setCell_same (i := j) h1 v, by simp [h2], fun i hi => ?_⟩
  rw [Array.getElem?_setIfInBounds]
  by_cases e : i = j
  · subst e
    rw [if_pos rfl, if_pos (by omega)]
    simp
  · rw [if_neg (fun h => e h.symm), h3 i hi]
    show some (f i) = some (if i = j then v else f i)
    rw [if_neg e]
theorem RowF.setRow (h : RowF w g n f) {f' : Nat → Value} (cs : Array Value) (hs : cs.size = n) (hf : ∀ i, i < n → cs[i]? = some (f' i)) : RowF (w.setRow g cs) g n f' := by
  obtain ⟨cs0, T, h1, h2, h3⟩ := h
  exact ⟨cs, T, setRow_heap w g cs0 cs T (0, 0) h1, hs, hf⟩
end
theorem Mv.setRow {w w' : World} {L : List Nat} (h : Mv w w' L) {g : Nat} (hg : g ∈ L) (cs : Array Value) : Mv w (w'.setRow g cs) L :=
  ⟨h.os, h.tape, h.output, by simpa [World.setRow] using h.size, fun k hk hn => (setRow_other w' g k cs (by rintro rfl; exact hn hg)).trans (h.keep k hk hn)⟩

/-- an arena -/
structure Ar where
  nb : Nat
  b : Nat
  wb : Nat
  tb : Nat
  mb : Nat
  W : Nat → Nat
  T : Nat → Bool
  M : Nat → Bool
  F : Nat → Int
def upd {α : Type} (f : Nat → α) (i : Nat) (v : α) : Nat → α := fun j => if j = i then v else f j
theorem upd_same {α : Type} (f : Nat → α) (i : Nat) (v : α) : upd f i v i = v := if_pos rfl
theorem upd_else {α : Type} (f : Nat → α) (v : α) {i j : Nat} (h : j ≠ i) : upd f i v j = f j := if_neg h
/-- the cells of an arena's own block -/
def Ar.fv (A : Ar) (i : Nat) : Value := if i = 0 then .slice (some ⟨A.wb, 0, none⟩) (A.nb * 256) (A.nb * 256) else if i = 1 then .slice (some ⟨A.tb, 0, none⟩) A.nb A.nb else if i = 2 then .slice (some ⟨A.mb, 0, none⟩) A.nb A.nb else .int .i64 (A.F i)
abbrev Ar.blks (A : Ar) : List Nat := [A.b, A.wb, A.tb, A.mb]
/-- an arena in memory -/
structure AR (w : World) (A : Ar) : Prop where
  ra : RowF w A.b 10 A.fv
  rw : RowF w A.wb (256 * A.nb) (fun i => .int .u64 ((A.W i : Nat) : Int))
  rt : RowF w A.tb (16 * A.nb) (fun i => .bool (A.T i))
  rm : RowF w A.mb (16 * A.nb) (fun i => .bool (A.M i))
  d1 : A.b ≠ A.wb
  d2 : A.b ≠ A.tb
  d3 : A.b ≠ A.mb
  d4 : A.wb ≠ A.tb
  d5 : A.wb ≠ A.mb
  d6 : A.tb ≠ A.mb
  n1 : 1 ≤ A.nb
  n2 : A.nb ≤ 4096
section
variable {w w' : World} {A : Ar}
theorem AR.keep (h : AR w A) (e : ∀ k ∈ A.blks, w'.heap[k]? = w.heap[k]?) : AR w' A :=
  ⟨h.ra.keep (e _ (by simp)), h.rw.keep (e _ (by simp)), h.rt.keep (e _ (by simp)), h.rm.keep (e _ (by simp)), h.d1, h.d2, h.d3, h.d4, h.d5, h.d6, h.n1, h.n2⟩
theorem AR.lt (h : AR w A) : ∀ k ∈ A.blks, k < w.heap.size := by
  intro k hk
  simp only [Ar.blks, List.mem_cons, List.not_mem_nil, or_false] at hk
  rcases hk with rfl | rfl | rfl | rfl
  · exact h.ra.lt
  · exact h.rw.lt
  · exact h.rt.lt
  · exact h.rm.lt
theorem AR.mv {L : List Nat} (h : AR w A) (hm : Mv w w' L) (hn : ∀ k ∈ A.blks, k ∉ L) : AR w' A := h.keep fun k hk => hm.keep k (h.lt k hk) (hn k hk)
theorem AR.drew (h : AR w A) : AR w.drew A := h.keep fun _ _ => rfl
theorem AR.drewN (h : AR w A) (k : Nat) : AR (w.drewN k) A := h.keep fun _ _ => rfl
theorem AR.alloc (h : AR w A) (o : Obj) : AR (w.alloc o) A := h.keep fun k hk => Below.heap_alloc w o k (h.lt k hk)
theorem AR.c0 (h : AR w A) : w.cell? ⟨A.b, 0, none⟩ = some (.slice (some ⟨A.wb, 0, none⟩) (A.nb * 256) (A.nb * 256)) := h.ra.cell (i := 0) (by decide)
theorem AR.c1 (h : AR w A) : w.cell? ⟨A.b, 1, none⟩ = some (.slice (some ⟨A.tb, 0, none⟩) A.nb A.nb) := h.ra.cell (i := 1) (by decide)
theorem AR.c2 (h : AR w A) : w.cell? ⟨A.b, 2, none⟩ = some (.slice (some ⟨A.mb, 0, none⟩) A.nb A.nb) := h.ra.cell (i := 2) (by decide)
theorem Ar.fv_F (A : Ar) {i : Nat} (h : 3 ≤ i) : A.fv i = .int .i64 (A.F i) := by
  unfold Ar.fv
  rw [if_neg (by omega), if_neg (by omega), if_neg (by omega)]
theorem AR.cF (h : AR w A) (i : Nat) (h3 : 3 ≤ i) (h10 : i < 10) : w.cell? ⟨A.b, i, none⟩ = some (.int .i64 (A.F i)) := (h.ra.cell h10).trans (by rw [A.fv_F h3])
theorem AR.cW (h : AR w A) {i : Nat} (hi : i < 256 * A.nb) : w.cell? ⟨A.wb, i, none⟩ = some (.int .u64 ((A.W i : Nat) : Int)) := h.rw.cell hi
theorem AR.cT (h : AR w A) {i : Nat} (hi : i < 16 * A.nb) : w.cell? ⟨A.tb, i, none⟩ = some (.bool (A.T i)) := h.rt.cell hi
theorem AR.cM (h : AR w A) {i : Nat} (hi : i < 16 * A.nb) : w.cell? ⟨A.mb, i, none⟩ = some (.bool (A.M i)) := h.rm.cell hi
theorem AR.fA (h : AR w A) (i : Nat) : w.frozen? ⟨A.b, i, none⟩ = false := h.ra.free i
theorem AR.fW (h : AR w A) (i : Nat) : w.frozen? ⟨A.wb, i, none⟩ = false := h.rw.free i
theorem AR.fT (h : AR w A) (i : Nat) : w.frozen? ⟨A.tb, i, none⟩ = false := h.rt.free i
theorem AR.fM (h : AR w A) (i : Nat) : w.frozen? ⟨A.mb, i, none⟩ = false := h.rm.free i
theorem AR.setF (h : AR w A) (i : Nat) (h3 : 3 ≤ i) (v : Int) : AR (w.setCell ⟨A.b, i, none⟩ (.int .i64 v)) { A with F := upd A.F i v } := by
  refine ⟨(h.ra.set (j := i) (.int .i64 v)).eq fun j _ => ?_, h.rw.far h.d1.symm _, h.rt.far h.d2.symm _, h.rm.far h.d3.symm _, h.d1, h.d2, h.d3, h.d4, h.d5, h.d6, h.n1, h.n2⟩
  unfold Ar.fv upd
  dsimp only
  by_cases e : j = i
  · rw [if_pos e, if_pos e, if_neg (by omega), if_neg (by omega), if_neg (by omega)]
  · rw [if_neg e, if_neg e]
theorem AR.setW (h : AR w A) (i : Nat) (v : Nat) : AR (w.setCell ⟨A.wb, i, none⟩ (.int .u64 (v : Int))) { A with W := upd A.W i v } := by
  refine ⟨h.ra.far h.d1 _, (h.rw.set (j := i) (.int .u64 (v : Int))).eq fun j _ => ?_, h.rt.far h.d4.symm _, h.rm.far h.d5.symm _, h.d1, h.d2, h.d3, h.d4, h.d5, h.d6, h.n1, h.n2⟩
  unfold upd
  dsimp only
  by_cases e : j = i
  · rw [if_pos e, if_pos e]
  · rw [if_neg e, if_neg e]
theorem AR.setT (h : AR w A) (i : Nat) (v : Bool) : AR (w.setCell ⟨A.tb, i, none⟩ (.bool v)) { A with T := upd A.T i v } := by
  refine ⟨h.ra.far h.d2 _, h.rw.far h.d4 _, (h.rt.set (j := i) (.bool v)).eq fun j _ => ?_, h.rm.far h.d6.symm _, h.d1, h.d2, h.d3, h.d4, h.d5, h.d6, h.n1, h.n2⟩
  unfold upd
  dsimp only
  by_cases e : j = i
  · rw [if_pos e, if_pos e]
  · rw [if_neg e, if_neg e]
theorem AR.setM (h : AR w A) (i : Nat) (v : Bool) : AR (w.setCell ⟨A.mb, i, none⟩ (.bool v)) { A with M := upd A.M i v } := by
  refine ⟨h.ra.far h.d3 _, h.rw.far h.d5 _, h.rt.far h.d6 _, (h.rm.set (j := i) (.bool v)).eq fun j _ => ?_, h.d1, h.d2, h.d3, h.d4, h.d5, h.d6, h.n1, h.n2⟩
  unfold upd
  dsimp only
  by_cases e : j = i
  · rw [if_pos e, if_pos e]
  · rw [if_neg e, if_neg e]
theorem AR.eqv {T M : Nat → Bool} (h : AR w A) (eT : ∀ i, i < 16 * A.nb → A.T i = T i) (eM : ∀ i, i < 16 * A.nb → A.M i = M i) : AR w { A with T := T, M := M } :=
  ⟨h.ra, h.rw, h.rt.eq fun i hi => by dsimp only; rw [eT i hi], h.rm.eq fun i hi => by dsimp only; rw [eM i hi], h.d1, h.d2, h.d3, h.d4, h.d5, h.d6, h.n1, h.n2⟩
end

variable {P : Program}
/-- copy, of rows whose elements have many cells -/
theorem run_copy_many (w : World) (dT sT ty elem : TypeId) (g dLen dCap : Nat) (a : Addr) (sLen sCap k : Nat) (cur : Array Value) (t : TypeId) (cs : List Value)
    (hu : P.underlying dT = some (.slice elem)) (hs : (P.info? elem).map (·.size) = some k)
    (hg : w.heap[g]? = some (.cells cur t (0, 0))) (hn : cs.length = Nat.min sLen dLen * k)
    (hsrc : ∀ j v, cs[j]? = some v → w.cell? (a.add j) = some v) (hfit : cur.size = cs.length) (h1 : ∀ v ∈ cs, v.oneCell' = true) :
    (Builtin.copy_ #[dT, sT] ty #[.slice (some ⟨g, 0, none⟩) dLen dCap, .slice (some a) sLen sCap]).run P w = .ok (goInt (Nat.min sLen dLen)) (w.setRow g cs.toArray) := by
  have hl := run_loadCells_list (P := P) w a cs hsrc
  have hst := run_storeCells_at P g 0 t cs 0 cur w hg (by simp [hfit]) h1
  have e : (cur.toList.take (0 + 0) ++ cs ++ cur.toList.drop (0 + 0 + cs.length)).toArray = cs.toArray := by
    rw [List.take_zero, List.drop_of_length_le (by simp [hfit])]
    simp
  rw [e] at hst
  cases hq : P.info? elem with
  | none => simp [hq] at hs
  | some i =>
    have hi : i.size = k := by simpa [hq] using hs
    simp [Builtin.copy_, run_underlying hu, Builtin.lenOf, Builtin.firstCells, sizeOf, typeInfo, hq, hi, ← hn, hl, hst]
/-- clear, of a row whose elements have many cells -/
theorem run_clear_many (w : World) (t e ty : TypeId) (z : Value) (v : Value) (k : Nat) (ht : P.underlying t = some (.slice e)) (hv : ∀ w, (zeroValue e).run P w = .ok z w) (hz : z.cells = (List.replicate k v).toArray) (h1 : v.oneCell' = true) (g n c : Nat) (hn : 0 < n)
    (cur : Array Value) (T : TypeId) (hg : w.heap[g]? = some (.cells cur T (0, 0))) (hsz : cur.size = n * k) :
    (Builtin.clear_ #[t] ty #[.slice (some ⟨g, 0, none⟩) n c]).run P w = .ok (.tuple #[]) (w.setRow g (List.replicate (n * k) v).toArray) := by
  have hzc : (Builtin.zeroCells z.cells n).toList = List.replicate (n * k) v := by
    rw [hz]
    apply List.ext_getElem
    · simp [Builtin.zeroCells]
    · intro i h1 h2
      have hk : 0 < k := by
        rcases Nat.eq_zero_or_pos k with h | h
        · subst h; simp [Builtin.zeroCells] at h1
        · exact h
      simp [Builtin.zeroCells, Nat.mod_lt i hk]
  have hst := run_storeCells_at P g 0 T (List.replicate (n * k) v) 0 cur w hg (by simp [hsz]) (by intro x hx; rw [List.eq_of_mem_replicate hx]; exact h1)
  have e : (cur.toList.take (0 + 0) ++ List.replicate (n * k) v ++ cur.toList.drop (0 + 0 + (List.replicate (n * k) v).length)).toArray = (List.replicate (n * k) v).toArray := by
    rw [List.take_zero, List.drop_of_length_le (by simp [hsz])]
    simp
  rw [e] at hst
  obtain ⟨m, rfl⟩ : ∃ m, n = m + 1 := ⟨n - 1, by omega⟩
  simp [Builtin.clear_, run_underlying ht, hv, hzc, hst]
end LM
end Go.Proofs.Ytghnaiinhbdgcaa
