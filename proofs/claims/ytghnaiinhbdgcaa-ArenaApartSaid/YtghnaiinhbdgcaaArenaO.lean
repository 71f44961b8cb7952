/- The list of acts that came in, opened. -/
import Derived.Test.YtghnaiinhbdgcaaArenaA
import Derived.Deep.Strs
import Derived.Lib.SmallJoins
import Derived.ProofKit
import Derived.OpenShut
namespace Go.Proofs.Ytghnaiinhbdgcaa
open Go Go.RowKit Go.ChangeShapes Go.WideShapes
namespace LM
set_option linter.unusedVariables false

theorem spot_none {w : World} {x : Addr} {v : Value} (h : w.cell? x = some v) : x = ⟨x.block, x.off, none⟩ ∧ x.block < w.heap.size := by
  obtain ⟨b, o, s⟩ := x
  unfold World.cell? at h
  dsimp only at h
  cases hb : w.heap[b]? with
  | none => rw [hb] at h; cases h
  | some ob =>
    rw [hb] at h
    have hlt := (Array.getElem?_eq_some_iff.1 hb).1
    cases s with
    | none => exact ⟨rfl, hlt⟩
    | some k =>
      exfalso
      cases ob <;> first | (cases h; done) | simp at h

theorem add_pl (b o j : Nat) : (⟨b, o, none⟩ : Addr).add j = ⟨b, o + j, none⟩ := by unfold Addr.add; split <;> simp_all
section
variable {H : Type} {enc : TypeId × Value → H} {w : World} {base : Nat} {held : Bool}
set_option maxRecDepth 100000 in
/-- a slice whose elements have k cells each, opened element by element -/
theorem open_row_of {α : Type} (f : α → List Value) (k : Nat) (hk : 0 < k) {t e : TypeId} (ht : Try.prog.underlying t = some (.slice e)) (hce : Try.prog.cellsOf e = k) (P : α → Prop) (hfl : ∀ x, (f x).length = k)
    (op : ∀ (n : Nat) (cl : List Value) (y : DataW H × List MemPlace), DataW.trod enc Try.prog w 0 (fun _ => true) held n e cl = some y → ∃ x, cl = f x ∧ P x)
    {n : Nat} {c : Value} {y : DataW H × List MemPlace} (h4 : DataW.trod enc Try.prog w 0 (fun _ => true) held n t [c] = some y) :
    ∃ B xs cap, c = .slice B (List.length xs) cap ∧ (∀ x ∈ xs, P x) ∧ (∃ b off, (0 < xs.length → B = some ⟨b, off, none⟩) ∧ ∀ (j : Nat) x, xs[j]? = some x → ∀ (i : Nat) v, (f x)[i]? = some v → b < w.heap.size ∧ w.cell? ⟨b, off + j * k + i, none⟩ = some v) ∧ (xs.length ≤ cap ∧ cap ≤ 9223372036854775807) := by
  rcases DataW.trod_slice ht h4 with ⟨hcs, _⟩ | ⟨a, len, cap, elems, rest, n2, hn2, hcs, _, _, hlc, hcapm, hel, hall, hsp, _⟩
  · obtain rfl : c = .slice none 0 0 := by simpa using hcs
    exact ⟨none, [], 0, rfl, fun x hx => absurd hx (by simp), ⟨0, 0, fun h => absurd h (Nat.lt_irrefl 0), fun j x hj => by simp at hj⟩, ⟨Nat.le_refl _, by decide⟩⟩
  · obtain rfl : c = .slice (some a) len cap := by simpa using hcs
    rw [hce] at hall
    have hex : ∀ i, i < len → ∃ x, w.cells? 0 (a.add (i * k)) k = some (f x) ∧ P x := fun i hi => by
      have h5 := hall i hi
      have h6 : i < elems.length := by omega
      rw [List.getElem?_eq_getElem h6] at h5
      obtain ⟨cl, h7, h8⟩ := Option.bind_eq_some_iff.1 h5
      obtain ⟨x, rfl, hp⟩ := op _ _ _ h8
      exact ⟨x, h7, hp⟩
    have hx0 : a.add 0 = a := by simp [Addr.add]
    have hspot : 0 < len → a.spot = none := fun h => by
      obtain ⟨x, h7, -⟩ := hex 0 h
      rw [Nat.zero_mul, hx0] at h7
      have h9 := (World.cells?_some h7).2.2 0 hk
      rw [hx0, List.getElem?_eq_getElem (by rw [hfl]; exact hk)] at h9
      have := (spot_none h9).1
      rw [this]
    have hg : ∀ i : Fin len, w.cells? 0 (a.add (i.1 * k)) k = some (f (hex i.1 i.2).choose) ∧ P (hex i.1 i.2).choose := fun i => (hex i.1 i.2).choose_spec
    refine ⟨some a, List.ofFn fun i : Fin len => (hex i.1 i.2).choose, cap, by rw [List.length_ofFn], fun x hx => ?_, ⟨a.block, a.off, fun h => ?_, fun j x hj i v hi => ?_⟩, ⟨by rw [List.length_ofFn]; exact hlc, by unfold maxLen at hcapm; exact Nat.le_trans hcapm (by decide)⟩⟩
    · obtain ⟨i, rfl⟩ := List.mem_ofFn.1 hx
      exact (hg i).2
    · rw [List.length_ofFn] at h
      have := hspot h
      obtain ⟨ab, ao, asp⟩ := a
      dsimp only at this
      subst this
      rfl
    · have hjl : j < len := by have := (List.getElem?_eq_some_iff.1 hj).1; rwa [List.length_ofFn] at this
      rw [List.getElem?_ofFn, dif_pos hjl] at hj
      have hx := Option.some.inj hj
      have h1 := (hg ⟨j, hjl⟩).1
      rw [hx] at h1
      have hik : i < k := by rw [← hfl x]; exact (List.getElem?_eq_some_iff.1 hi).1
      have h9 := (World.cells?_some h1).2.2 i hik
      have hs := hspot (by omega)
      obtain ⟨ab, ao, asp⟩ := a
      dsimp only at hs
      subst hs
      rw [add_pl, add_pl, hi] at h9
      exact ⟨(spot_none h9).2, h9⟩

/-- an act -/
structure Act4 where
  k : Int
  n : Int
  a : Int
  v : Int
abbrev actL (x : Act4) : List Value := [.int .i64 x.k, .int .i64 x.n, .int .i64 x.a, .int .u64 x.v]
def ActR (x : Act4) : Prop := (-9223372036854775808 ≤ x.k ∧ x.k ≤ 9223372036854775807) ∧ (-9223372036854775808 ≤ x.n ∧ x.n ≤ 9223372036854775807) ∧ (-9223372036854775808 ≤ x.a ∧ x.a ≤ 9223372036854775807)
theorem int_range {a : Int} (w0 : (Lit.int .i64 a).wf = true) : -9223372036854775808 ≤ a ∧ a ≤ 9223372036854775807 := by
  simp [Lit.wf, IntKind.min, IntKind.max, IntKind.signed, IntKind.bits] at w0
  omega
set_option maxRecDepth 100000 in
theorem open_act (n : Nat) (cl : List Value) (y : DataW H × List MemPlace) (h : DataW.trod enc Try.prog w 0 (fun _ => true) held n 35 cl = some y) : ∃ x, cl = actL x ∧ ActR x := by
  obtain ⟨y0, y1, y2, y3, m, rfl, hl, h0, h1, h2, h3⟩ := Go.Joins.trod_struct4 Try.underlying35 h
  have hci : Try.prog.cellsOf 3 = 1 := by kernel_rfl
  have hcx : Try.prog.cellsOf 35 = 4 := by kernel_rfl
  have hcw : Try.prog.cellsOf 25 = 1 := by kernel_rfl
  rw [hcx] at hl
  obtain ⟨c0, c1, c2, c3, rfl⟩ : ∃ c0 c1 c2 c3, cl = [c0, c1, c2, c3] := by
    match cl, hl with
    | [c0, c1, c2, c3], _ => exact ⟨c0, c1, c2, c3, rfl⟩
  obtain ⟨z0, e0, -, w0⟩ := DataW.trod_int Try.underlying3 h0
  obtain ⟨z1, e1, -, w1⟩ := DataW.trod_int Try.underlying3 h1
  obtain ⟨z2, e2, -, w2⟩ := DataW.trod_int Try.underlying3 h2
  obtain ⟨z3, e3, -, w3⟩ := DataW.trod_int Try.underlying25 h3
  simp [hci, hcw] at e0 e1 e2 e3
  exact ⟨⟨z0, z1, z2, z3⟩, by rw [e0, e1, e2, e3], int_range w0, int_range w1, int_range w2⟩
/-- a list of acts, as it came in -/
def ActsAt (w : World) (B : Option Addr) (xs : List Act4) : Prop := ∃ b off, (0 < xs.length → B = some ⟨b, off, none⟩) ∧ ∀ (j : Nat) x, xs[j]? = some x → b < w.heap.size ∧ w.cell? ⟨b, off + j * 4, none⟩ = some (.int .i64 x.k) ∧ w.cell? ⟨b, off + j * 4 + 1, none⟩ = some (.int .i64 x.n) ∧ w.cell? ⟨b, off + j * 4 + 2, none⟩ = some (.int .i64 x.a) ∧ w.cell? ⟨b, off + j * 4 + 3, none⟩ = some (.int .u64 x.v)
set_option maxRecDepth 100000 in
theorem open_acts {b0 : Nat} {r : Reach} {v : Value} {d : DataW H} {p : List MemPlace}
    (hv : Value.okWide Try.prog w r b0 32 v) (h : DataW.Trod enc Try.prog w 0 (fun _ => true) held 32 v d p) :
    ∃ (B : Option Addr) (xs : List Act4) (cap : Nat), v = .slice B xs.length cap ∧ (∀ x ∈ xs, ActR x) ∧ ActsAt w B xs ∧ (xs.length ≤ cap ∧ cap ≤ 9223372036854775807) := by
  obtain ⟨B0, l0, c0, rfl⟩ := okWide_slice Try.underlying32 hv
  obtain ⟨fuel, hf⟩ := h
  obtain ⟨B, xs, cap, e, hr, ⟨b, off, hB, hat⟩, hcap⟩ := open_row_of actL 4 (by decide) Try.underlying32 (by kernel_rfl) ActR (fun _ => rfl) open_act hf
  exact ⟨B, xs, cap, e, hr, ⟨b, off, hB, fun j x hj => ⟨(hat j x hj 0 _ rfl).1, (hat j x hj 0 _ rfl).2, (hat j x hj 1 _ rfl).2, (hat j x hj 2 _ rfl).2, (hat j x hj 3 _ rfl).2⟩⟩, hcap⟩
end
end LM
end Go.Proofs.Ytghnaiinhbdgcaa
