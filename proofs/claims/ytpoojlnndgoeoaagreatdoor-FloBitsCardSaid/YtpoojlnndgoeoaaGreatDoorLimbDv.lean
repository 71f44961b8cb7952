/- A region that draws its order, walked by states instead of orders; and what is known of the long division's memory, apart from the walk. · The long division's loop, apart from the walk: what stands between two rounds. -/
import Derived.Test.YtpoojlnndgoeoaaGreatDoorLimbTake
import Derived.Test.YtpoojlnndgoeoaaGreatDoorLimbMath
import Derived.Test.YtpoojlnndgoeoaaGreatDoorLimbP
namespace Go.Proofs.YtpoojlnndgoeoaaGreatDoor
open Go Go.RowKit
namespace LM

section
variable {F : Fence} {n : Nat} {P : Program} {ops : Array Oper} {C : World → Prop} {md : Region.Mode} {Q : Exit → Act → World → Prop} {E : Nat → Bool}

/-- what has been done is told by a state; each operation that may come next leads to a state -/
theorem wpC_states {σ : Type} (lst : σ → Array Bool) (rd : σ → List Nat) (next : σ → Nat → σ) (ok : σ → Prop) (rank : σ → Nat) (Inv : σ → Act → World → Prop) (f0 : Nat)
    (hrd : ∀ s, ok s → 0 < rank s → Region.ready md ops (lst s) = rd s) (hne : ∀ s, ok s → 0 < rank s → rd s ≠ [])
    (hnext : ∀ s, ok s → 0 < rank s → ∀ i ∈ rd s, ok (next s i) ∧ rank s = rank (next s i) + 1 ∧ lst (next s i) = (lst s).setIfInBounds i true)
    (hstep : ∀ s a w, ok s → 0 < rank s → Inv s a w → ∀ i ∈ rd s, wpOpIn F n P ops Q i (fun a' w' => (E i = false → C w') ∧ Inv (next s i) a' w') a w)
    (hend : ∀ s a w, ok s → rank s = 0 → Inv s a w → wpC F n P md ops E C Q f0 (lst s) a w) :
    ∀ (r : Nat) (s : σ) (a : Act) (w : World), rank s = r → ok s → Inv s a w → wpC F n P md ops E C Q (r + f0) (lst s) a w
  | 0, s, a, w, hr, ho, hi => by rw [Nat.zero_add]; exact hend s a w ho hr hi
  | r + 1, s, a, w, hr, ho, hi => by
    rw [show r + 1 + f0 = (r + f0) + 1 by omega]
    refine ⟨fun h => absurd ((hrd s ho (by omega)).symm.trans h) (hne s ho (by omega)), fun i hmem => ?_⟩
    rw [hrd s ho (by omega)] at hmem
    obtain ⟨h1, h2, h3⟩ := hnext s ho (by omega) i hmem
    refine wpOpIn_mono (fun a' w' h => ⟨h.1, ?_⟩) (hstep s a w ho (by omega) hi i hmem)
    rw [← h3]
    exact wpC_states lst rd next ok rank Inv f0 hrd hne hnext hstep hend r (next s i) a' w' (by omega) h1 h.2
end

theorem wpC_listed {F : Fence} {n : Nat} {P : Program} {ops : Array Oper} {C : World → Prop} {md : Region.Mode} {Q : Exit → Act → World → Prop} {E : Nat → Bool} {fuel : Nat} {listed : Array Bool} {a : Act} {w : World} (l' : Array Bool) (h : listed = l')
    (k : wpC F n P md ops E C Q fuel l' a w) : wpC F n P md ops E C Q fuel listed a w := h ▸ k

/-- the states of the long division's first region: how many of the chain's three calls are over, and which of the two boxes are there -/
def s9lst (s : Nat × Bool × Bool) : Array Bool := #[true, true, decide (1 ≤ s.1), true, true, decide (2 ≤ s.1), decide (3 ≤ s.1), s.2.1, s.2.2, false, false]
def s9rd (s : Nat × Bool × Bool) : List Nat := (if s.1 = 0 then [2] else if s.1 = 1 then [5] else if s.1 = 2 then [6] else []) ++ (if s.2.1 then [] else [7]) ++ (if s.2.2 then [] else [8])
def s9next (s : Nat × Bool × Bool) (i : Nat) : Nat × Bool × Bool := if i = 7 then (s.1, true, s.2.2) else if i = 8 then (s.1, s.2.1, true) else (s.1 + 1, s.2.1, s.2.2)
def s9rank (s : Nat × Bool × Bool) : Nat := (3 - s.1) + (if s.2.1 then 0 else 1) + (if s.2.2 then 0 else 1)
theorem s9_mem {k : Nat} {b7 b8 : Bool} {i : Nat} (h : i ∈ s9rd (k, b7, b8)) : (i = 2 ∧ k = 0) ∨ (i = 5 ∧ k = 1) ∨ (i = 6 ∧ k = 2) ∨ (i = 7 ∧ b7 = false) ∨ (i = 8 ∧ b8 = false) := by
  unfold s9rd at h
  simp only [List.mem_append] at h
  rcases h with (h | h) | h
  · split at h
    · simp at h; omega
    · split at h
      · simp at h; omega
      · split at h
        · simp at h; omega
        · cases h
  · cases b7 <;> simp at h; exact .inr (.inr (.inr (.inl ⟨h, rfl⟩)))
  · cases b8 <;> simp at h; exact .inr (.inr (.inr (.inr ⟨h, rfl⟩)))
theorem s9_ne {s : Nat × Bool × Bool} (h1 : s.1 ≤ 3) (h : 0 < s9rank s) : s9rd s ≠ [] := by
  obtain ⟨k, b7, b8⟩ := s
  unfold s9rank at h
  unfold s9rd
  have : k = 0 ∨ k = 1 ∨ k = 2 ∨ k = 3 := by simp at h1; omega
  rcases this with rfl | rfl | rfl | rfl <;> cases b7 <;> cases b8 <;> simp at h ⊢
theorem s9_next {s : Nat × Bool × Bool} (h1 : s.1 ≤ 3) {i : Nat} (hi : i ∈ s9rd s) : (s9next s i).1 ≤ 3 ∧ s9rank s = s9rank (s9next s i) + 1 ∧ s9lst (s9next s i) = (s9lst s).setIfInBounds i true := by
  obtain ⟨k, b7, b8⟩ := s
  have hk : k = 0 ∨ k = 1 ∨ k = 2 ∨ k = 3 := by simp at h1; omega
  rcases s9_mem hi with ⟨rfl, rfl⟩ | ⟨rfl, rfl⟩ | ⟨rfl, rfl⟩ | ⟨rfl, rfl⟩ | ⟨rfl, rfl⟩
  · cases b7 <;> cases b8 <;> decide
  · cases b7 <;> cases b8 <;> decide
  · cases b7 <;> cases b8 <;> decide
  · rcases hk with rfl | rfl | rfl | rfl <;> cases b8 <;> decide
  · rcases hk with rfl | rfl | rfl | rfl <;> cases b7 <;> decide
theorem s9_done {s : Nat × Bool × Bool} (h1 : s.1 ≤ 3) (h : s9rank s = 0) : s = (3, true, true) := by
  obtain ⟨k, b7, b8⟩ := s
  unfold s9rank at h
  cases b7 <;> cases b8 <;> simp at h h1 ⊢ <;> omega

/-- before the first round the highest limbs of the shifted number are below the divisor -/
theorem div_start {xs ys zs : List Nat} {s D : Nat} (hx : Lm xs) (hz : zs.length = xs.length + 1) (hv : val zs = val xs * 2 ^ s) (hy : Can ys) (hn : 0 < ys.length) (hle : ys.length ≤ xs.length) (hD : D = val ys * 2 ^ s) :
    val (zs.drop (xs.length - ys.length + 1)) < D := by
  have h1 := val_lt hx
  have e1 := val_split zs (xs.length - ys.length + 1)
  rw [Nat.min_eq_left (by omega)] at e1
  obtain ⟨m, hm⟩ : ∃ m, ys.length = m + 1 := ⟨ys.length - 1, by omega⟩
  have h2 := (can_len hy m).1 (by omega)
  have h3 : xs.length = (xs.length - ys.length + 1) + m := by omega
  rw [h3, Nat.pow_add] at h1
  generalize xs.length - ys.length + 1 = k at *
  have hN : 0 < 2 ^ s := Nat.pow_pos (by decide)
  have hP : 0 < 4294967296 ^ k := Nat.pow_pos (by decide)
  generalize 2 ^ s = N at *
  generalize 4294967296 ^ k = P at *
  generalize 4294967296 ^ m = M at *
  have h4 := Nat.mul_lt_mul_of_pos_right h1 hN
  have h5 := Nat.mul_le_mul_right N h2
  rw [← hv] at h4
  have h6 : P * val (zs.drop k) < P * (M * N) := by rw [← Nat.mul_assoc]; omega
  have h7 := Nat.lt_of_mul_lt_mul_left h6
  omega

theorem can_top {xs : List Nat} (h : Can xs) (hn : 0 < xs.length) : xs[xs.length - 1]?.getD 0 ≠ 0 := by
  have hne : xs ≠ [] := by intro e; subst e; simp at hn
  have h1 := can_last (xs := xs.dropLast) (y := xs.getLast hne) (by rw [List.dropLast_concat_getLast hne]; exact h)
  rw [List.getLast_eq_getElem] at h1
  rw [List.getElem?_eq_getElem (by omega)]; exact h1

/-- a box of a slice -/
def SBox (w : World) (p : Nat) (v : Value) : Prop := w.heap[p]? = some (.cells #[v] 39 (0, 0))
section
variable {w w' : World} {p g : Nat} {v u : Value} {cs : List Value}
theorem SBox.lt (h : SBox w p v) : p < w.heap.size := by
  rcases Nat.lt_or_ge p w.heap.size with hlt | hge
  · exact hlt
  · unfold SBox at h; rw [Array.getElem?_eq_none hge] at h; cases h
theorem SBox.cell (h : SBox w p v) : w.cell? ⟨p, 0, none⟩ = some v := by rw [cell_of_row w p 0 #[v] 39 (0, 0) h]; rfl
theorem SBox.frozen (h : SBox w p v) : w.frozen? ⟨p, 0, none⟩ = false := by unfold SBox at h; simp [World.frozen?, h]
theorem SBox.new (w : World) (v : Value) : SBox (w.alloc (.cells #[v] 39)) w.heap.size v := heap_alloc_new w _
theorem SBox.drew (h : SBox w p v) : SBox w.drew p v := h
theorem SBox.drewN (h : SBox w p v) (n : Nat) : SBox (w.drewN n) p v := h
theorem SBox.alloc (h : SBox w p v) (o : Obj) : SBox (w.alloc o) p v := (Below.heap_alloc w o p h.lt).trans h
theorem SBox.below {B : Nat} (h : SBox w p v) (hb : Below B w w') (hp : p < B) : SBox w' p v := (hb.block p hp).trans h
theorem SBox.grown {row : Option Nat} (h : SBox w p v) (hb : w.grownBy w' row) (hp : some p ≠ row) : SBox w' p v := (hb.block p h.lt hp).trans h
theorem SBox.far (h : SBox w p v) {q : Addr} (hq : p ≠ q.block) (u : Value) : SBox (w.setCell q u) p v := (Below.heap_setCell w q u p hq).trans h
theorem SBox.set_ (h : SBox w p v) (u : Value) : SBox (w.setCell ⟨p, 0, none⟩ u) p u := by
  unfold SBox at h ⊢
  simp [World.setCell, Array.getElem?_modify, h]
theorem SBox.ne (h : SBox w p v) (hb : Blk w g cs) : p ≠ g := by
  rintro rfl
  unfold SBox at h; unfold Blk at hb
  rw [h] at hb
  simp at hb
theorem SBox.kept {row : Option Nat} (h : SBox w p v) (hg : w.grownBy w' row) (hr : ∀ r, row = some r → ∃ o : Obj, w.heap[r]? = some o ∧ o.isCells = false) : SBox w' p v :=
  h.grown hg fun e => by
    obtain ⟨o, ho, hc⟩ := hr p e.symm
    unfold SBox at h; rw [h] at ho; injection ho with ho; subst ho; cases hc
end

/-- the region that makes the shifted numbers and their boxes: k of the chain's calls and the two boxes may be there -/
def R9 (w0 : World) (xs ys : List Nat) (s : Nat) (k : Nat) (b7 b8 : Bool) (v8 v9 v44 v47 v48 : Value) (W : World) : Prop :=
  ∃ (g d p q : Nat) (zs ds : List Nat), Below w0.heap.size w0 W ∧
    (1 ≤ k → v44 = .slice (some ⟨g, 0, none⟩) (xs.length + 1) (xs.length + 1) ∧ w0.heap.size ≤ g ∧ Blk W g (U zs) ∧ zs.length = xs.length + 1 ∧ Lm zs ∧ val zs = val xs * 2 ^ s) ∧
    (2 ≤ k → v47 = .slice (some ⟨d, 0, none⟩) (ys.length + 1) (ys.length + 1) ∧ w0.heap.size ≤ d ∧ Blk W d (U ds) ∧ ds.length = ys.length + 1 ∧ Lm ds ∧ val ds = val ys * 2 ^ s ∧ g ≠ d) ∧
    (3 ≤ k → v48 = .slice (some ⟨d, 0, none⟩) (trim ds).length (ys.length + 1)) ∧
    (b7 = true → v8 = .pointer (some ⟨p, 0, none⟩) ∧ w0.heap.size ≤ p ∧ SBox W p (.slice none 0 0)) ∧
    (b8 = true → v9 = .pointer (some ⟨q, 0, none⟩) ∧ w0.heap.size ≤ q ∧ SBox W q (.slice none 0 0)) ∧
    (b7 = true → b8 = true → p ≠ q)

section
variable {w0 W W' : World} {xs ys : List Nat} {s k : Nat} {b7 b8 : Bool} {v8 v9 v44 v47 v48 : Value}
theorem R9.start (w0 : World) (xs ys : List Nat) (s : Nat) (v8 v9 v44 v47 v48 : Value) : R9 w0 xs ys s 0 false false v8 v9 v44 v47 v48 w0.drew :=
  ⟨0, 0, 0, 0, [], [], (Below.refl _ _).drew, fun h => by omega, fun h => by omega, fun h => by omega, (fun h => by cases h), (fun h => by cases h), (fun h => by cases h)⟩
theorem R9.below (h : R9 w0 xs ys s k b7 b8 v8 v9 v44 v47 v48 W) : Below w0.heap.size w0 W := by
  obtain ⟨g, d, p, q, zs, ds, h0, _⟩ := h; exact h0
theorem R9.c2 {zs : List Nat} (h : R9 w0 xs ys s 0 b7 b8 v8 v9 v44 v47 v48 W) (h1 : zs.length = xs.length + 1) (h2 : Lm zs) (h3 : val zs = val xs * 2 ^ s) (h4 : Blk W' W.heap.size (U zs)) (h5 : Below W.heap.size W W') :
    R9 w0 xs ys s 1 b7 b8 v8 v9 (.slice (some ⟨W.heap.size, 0, none⟩) (xs.length + 1) (xs.length + 1)) v47 v48 W' := by
  obtain ⟨g, d, p, q, zs', ds, a0, a1, a2, a3, a4, a5, a6⟩ := h
  refine ⟨W.heap.size, d, p, q, zs, ds, a0.trans (h5.mono a0.size), fun _ => ⟨rfl, a0.size, h4, h1, h2, h3⟩, fun h => by omega, fun h => by omega, fun h => ?_, fun h => ?_, a6⟩
  · obtain ⟨b1, b2, b3⟩ := a4 h; exact ⟨b1, b2, b3.below h5 b3.lt⟩
  · obtain ⟨b1, b2, b3⟩ := a5 h; exact ⟨b1, b2, b3.below h5 b3.lt⟩
theorem R9.c5 {ds : List Nat} (h : R9 w0 xs ys s 1 b7 b8 v8 v9 v44 v47 v48 W) (h1 : ds.length = ys.length + 1) (h2 : Lm ds) (h3 : val ds = val ys * 2 ^ s) (h4 : Blk W' W.heap.size (U ds)) (h5 : Below W.heap.size W W') :
    R9 w0 xs ys s 2 b7 b8 v8 v9 v44 (.slice (some ⟨W.heap.size, 0, none⟩) (ys.length + 1) (ys.length + 1)) v48 W' := by
  obtain ⟨g, d, p, q, zs, ds', a0, a1, a2, a3, a4, a5, a6⟩ := h
  obtain ⟨c1, c2, c3, c4, c5, c6⟩ := a1 (Nat.le_refl _)
  refine ⟨g, W.heap.size, p, q, zs, ds, a0.trans (h5.mono a0.size), fun _ => ⟨c1, c2, c3.below h5 c3.lt, c4, c5, c6⟩, fun _ => ⟨rfl, a0.size, h4, h1, h2, h3, fun e => by have := c3.lt; omega⟩, fun h => by omega, fun h => ?_, fun h => ?_, a6⟩
  · obtain ⟨b1, b2, b3⟩ := a4 h; exact ⟨b1, b2, b3.below h5 b3.lt⟩
  · obtain ⟨b1, b2, b3⟩ := a5 h; exact ⟨b1, b2, b3.below h5 b3.lt⟩
theorem R9.a7 (h : R9 w0 xs ys s k false b8 v8 v9 v44 v47 v48 W) : R9 w0 xs ys s k true b8 (.pointer (some ⟨W.heap.size, 0, none⟩)) v9 v44 v47 v48 (W.alloc (.cells #[.slice none 0 0] 39)) := by
  obtain ⟨g, d, p, q, zs, ds, a0, a1, a2, a3, a4, a5, a6⟩ := h
  have h5 : Below W.heap.size W (W.alloc (.cells #[.slice none 0 0] 39)) := (Below.refl _ W).alloc (Nat.le_refl _) _
  refine ⟨g, d, W.heap.size, q, zs, ds, a0.trans (h5.mono a0.size), fun h => ?_, fun h => ?_, a3, fun _ => ⟨rfl, a0.size, SBox.new W _⟩, fun h => ?_, fun _ h => ?_⟩
  · obtain ⟨c1, c2, c3, c4, c5, c6⟩ := a1 h; exact ⟨c1, c2, c3.alloc _, c4, c5, c6⟩
  · obtain ⟨c1, c2, c3, c4, c5, c6⟩ := a2 h; exact ⟨c1, c2, c3.alloc _, c4, c5, c6⟩
  · obtain ⟨b1, b2, b3⟩ := a5 h; exact ⟨b1, b2, b3.alloc _⟩
  · obtain ⟨b1, b2, b3⟩ := a5 h; have := b3.lt; omega
theorem R9.a8 (h : R9 w0 xs ys s k b7 false v8 v9 v44 v47 v48 W) : R9 w0 xs ys s k b7 true v8 (.pointer (some ⟨W.heap.size, 0, none⟩)) v44 v47 v48 (W.alloc (.cells #[.slice none 0 0] 39)) := by
  obtain ⟨g, d, p, q, zs, ds, a0, a1, a2, a3, a4, a5, a6⟩ := h
  have h5 : Below W.heap.size W (W.alloc (.cells #[.slice none 0 0] 39)) := (Below.refl _ W).alloc (Nat.le_refl _) _
  refine ⟨g, d, p, W.heap.size, zs, ds, a0.trans (h5.mono a0.size), fun h => ?_, fun h => ?_, a3, fun h => ?_, fun _ => ⟨rfl, a0.size, SBox.new W _⟩, fun h _ => ?_⟩
  · obtain ⟨c1, c2, c3, c4, c5, c6⟩ := a1 h; exact ⟨c1, c2, c3.alloc _, c4, c5, c6⟩
  · obtain ⟨c1, c2, c3, c4, c5, c6⟩ := a2 h; exact ⟨c1, c2, c3.alloc _, c4, c5, c6⟩
  · obtain ⟨b1, b2, b3⟩ := a4 h; exact ⟨b1, b2, b3.alloc _⟩
  · obtain ⟨b1, b2, b3⟩ := a4 h; have := b3.lt; omega
/-- the divisor is trimmed -/
theorem R9.c6 (h : R9 w0 xs ys s 2 b7 b8 v8 v9 v44 v47 v48 W) : ∃ d ds, v47 = .slice (some ⟨d, 0, none⟩) (List.length ds) (ys.length + 1) ∧ ds.length = ys.length + 1 ∧ Rd W (some ⟨d, 0, none⟩) ds ∧
    R9 w0 xs ys s 3 b7 b8 v8 v9 v44 v47 (.slice (some ⟨d, 0, none⟩) (trim ds).length (ys.length + 1)) W := by
  obtain ⟨g, d, p, q, zs, ds, a0, a1, a2, a3, a4, a5, a6⟩ := h
  obtain ⟨c1, c2, c3, c4, c5, c6, c7⟩ := a2 (Nat.le_refl _)
  exact ⟨d, ds, by rw [c4]; exact c1, c4, Rd.of_blk (pre := []) (post := []) (by simpa using c3), g, d, p, q, zs, ds, a0, fun _ => a1 (by omega), fun _ => a2 (Nat.le_refl _), fun _ => rfl, a4, a5, a6⟩

/-- what is there when both are stored -/
def R9D (w0 : World) (xs ys : List Nat) (s : Nat) (v8 v9 : Value) (W : World) : Prop :=
  ∃ (g d p q : Nat) (zs ds : List Nat), Below w0.heap.size w0 W ∧ w0.heap.size ≤ g ∧ w0.heap.size ≤ d ∧ w0.heap.size ≤ p ∧ w0.heap.size ≤ q ∧ g ≠ d ∧
    v8 = .pointer (some ⟨p, 0, none⟩) ∧ v9 = .pointer (some ⟨q, 0, none⟩) ∧ SBox W p (.slice (some ⟨g, 0, none⟩) (xs.length + 1) (xs.length + 1)) ∧ SBox W q (.slice (some ⟨d, 0, none⟩) (trim ds).length (ys.length + 1)) ∧
    Blk W g (U zs) ∧ zs.length = xs.length + 1 ∧ Lm zs ∧ val zs = val xs * 2 ^ s ∧ Blk W d (U ds) ∧ ds.length = ys.length + 1 ∧ Lm ds ∧ val ds = val ys * 2 ^ s
theorem R9D.below (h : R9D w0 xs ys s v8 v9 W) : Below w0.heap.size w0 W := by
  obtain ⟨g, d, p, q, zs, ds, h0, _⟩ := h; exact h0
theorem R9.stores (h : R9 w0 xs ys s 3 true true v8 v9 v44 v47 v48 W) : ∃ p q : Nat, v8 = .pointer (some ⟨p, 0, none⟩) ∧ v9 = .pointer (some ⟨q, 0, none⟩) ∧ p ≠ q ∧ SBox W p (.slice none 0 0) ∧ SBox W q (.slice none 0 0) ∧
    (∃ g d n, v44 = .slice (some ⟨g, 0, none⟩) (xs.length + 1) (xs.length + 1) ∧ v48 = .slice (some ⟨d, 0, none⟩) n (ys.length + 1)) ∧ R9D w0 xs ys s v8 v9 ((W.setCell ⟨p, 0, none⟩ v44).setCell ⟨q, 0, none⟩ v48) := by
  obtain ⟨g, d, p, q, zs, ds, a0, a1, a2, a3, a4, a5, a6⟩ := h
  obtain ⟨c1, c2, c3, c4, c5, c6⟩ := a1 (by omega)
  obtain ⟨d1, d2, d3, d4, d5, d6, d7⟩ := a2 (by omega)
  have e1 := a3 (Nat.le_refl _)
  obtain ⟨p1, p2, p3⟩ := a4 rfl
  obtain ⟨q1, q2, q3⟩ := a5 rfl
  have hpq := a6 rfl rfl
  refine ⟨p, q, p1, q1, hpq, p3, q3, ⟨g, d, _, c1, e1⟩, g, d, p, q, zs, ds, ?_, c2, d2, p2, q2, d7, p1, q1, ?_, ?_, ?_, c4, c5, c6, ?_, d4, d5, d6⟩
  · exact (a0.setCell p2 _).setCell q2 _
  · rw [c1]; exact (p3.set_ _).far hpq _
  · rw [e1]; exact (q3.far (Ne.symm hpq) _).set_ _
  · exact (c3.far (p := ⟨p, 0, none⟩) (Ne.symm (p3.ne c3)) _).far (p := ⟨q, 0, none⟩) (Ne.symm (q3.ne c3)) _
  · exact (d3.far (p := ⟨p, 0, none⟩) (Ne.symm (p3.ne d3)) _).far (p := ⟨q, 0, none⟩) (Ne.symm (q3.ne d3)) _
end

end LM
end Go.Proofs.YtpoojlnndgoeoaaGreatDoor

namespace Go.Proofs.YtpoojlnndgoeoaaGreatDoor
open Go Go.RowKit
namespace LM

/-- what the places that have come, if they came in order, have made of the rest and of the quotient -/
def DvOrd (R0 D m : Nat) (pl cur qq : List Nat) : Prop :=
  pl = downs m pl.length → pl.length ≤ m → ∃ qs, qq = List.replicate (m - pl.length) 0 ++ qs ∧ val (cur.drop (m - pl.length)) < D ∧ R0 = val cur + D * 4294967296 ^ (m - pl.length) * val qs

theorem set_rep (j q : Nat) (qs : List Nat) : (List.replicate (j + 1) 0 ++ qs).set j q = List.replicate j 0 ++ q :: qs := by
  rw [List.replicate_succ', List.append_assoc, List.set_append_right _ _ (by simp)]
  simp

theorem DvOrd.next {R0 D m n j qd : Nat} {pl cur qq zs : List Nat} (h : DvOrd R0 D m pl cur qq) (hj : j < m) (hL : Lm cur) (hlen : cur.length = m + n) (hD : D ≤ 4294967296 ^ n) (hz : zs.length = n + 1)
    (hv : val zs + D * qd = val ((cur.drop j).take (n + 1))) (hlow : val ((cur.drop j).take (n + 1)) < D * 4294967296 → val zs < D) :
    DvOrd R0 D m (pl ++ [j]) (cur.take j ++ zs ++ cur.drop (j + n + 1)) (qq.set j qd) := by
  intro hd hl
  rw [List.length_append, List.length_singleton] at hd hl ⊢
  rw [downs_succ] at hd
  obtain ⟨e1, e2⟩ := List.append_inj' hd rfl
  have e3 : j = m - 1 - pl.length := by simpa using e2
  obtain ⟨qs, e4, e5, e6⟩ := h e1 (by omega)
  have hm : m - pl.length = j + 1 := by omega
  have hm2 : m - (pl.length + 1) = j := by omega
  rw [hm] at e4 e5 e6
  rw [hm2]
  obtain ⟨w1, w2, w3⟩ := win_val (i := j) (n := n) hL (by omega) e5 hD
  rw [← w1] at w3
  have h1 := hlow w3
  obtain ⟨r1, r2, r3⟩ := div_round (i := j) (n := n) (zs := zs) (q := qd) (qs := qs) (by omega) hz w2 w1 e6 hv
  exact ⟨qd :: qs, by rw [e4, set_rep], by rw [r2]; exact h1, r1⟩

theorem DvOrd.start {R0 D m : Nat} {cur : List Nat} (h : val (cur.drop m) < D) (hv : R0 = val cur) : DvOrd R0 D m [] cur (List.replicate m 0) :=
  fun _ _ => ⟨[], by simp, by simpa using h, by simpa [val] using hv⟩

/-- the long division's memory between two rounds: b3 holds the divisor as it came, p the rest, q the shifted divisor, bq the quotient, bs the quotient for the library's loop -/
def DvI (w0 : World) (B : Option Addr) (cb xl yl m R0 D b3 g d h p q bq bs : Nat) (ds : List Nat) (pre : List (Plc m fun _ _ => True)) (W : World) : Prop :=
  ∃ (cur qq : List Nat), cur.length = xl + 1 ∧ Lm cur ∧ qq.length = m ∧ Lm qq ∧ Blk W g (U cur) ∧ Blk W d (U ds) ∧ Blk W h (U qq) ∧ SBox W b3 (.slice B yl cb) ∧
    SBox W p (.slice (some ⟨g, 0, none⟩) (xl + 1) (xl + 1)) ∧ SBox W q (.slice (some ⟨d, 0, none⟩) yl (yl + 1)) ∧ SBox W bq (.slice (some ⟨h, 0, none⟩) m m) ∧ SBox W bs (.slice (some ⟨h, 0, none⟩) m m) ∧
    Below w0.heap.size w0 W ∧ DvOrd R0 D m (pre.map plc) cur qq

theorem DvI.own {w0 : World} {B : Option Addr} {cb xl yl m R0 D b3 g d h p q bq bs : Nat} {ds : List Nat} {B0 : Nat} (hB : w0.heap.size ≤ B0) : OwnFrom B0 (DvI w0 B cb xl yl m R0 D b3 g d h p q bq bs ds) := fun _ _ _ _ hs hg hr => by
  obtain ⟨cur, qq, a1, a2, a3, a4, a5, a6, a7, a8, a9, a10, a11, a12, a13, a14⟩ := hs
  have hr2 := fun r e => (hr r e).2
  exact ⟨cur, qq, a1, a2, a3, a4, a5.kept hg hr2, a6.kept hg hr2, a7.kept hg hr2, a8.kept hg hr2, a9.kept hg hr2, a10.kept hg hr2, a11.kept hg hr2, a12.kept hg hr2,
    a13.grown hg a13.size (fun r e => Nat.le_trans hB (hr r e).1), a14⟩

/-- the library's loop can go on -/
theorem DvI.bw {w0 : World} {B : Option Addr} {cb xl yl m R0 D b3 g d h p q bq bs : Nat} {ds : List Nat} {pre : List (Plc m fun _ _ => True)} {W : World} (hs : DvI w0 B cb xl yl m R0 D b3 g d h p q bq bs ds pre W) :
    BwOk bs (some ⟨h, 0, none⟩) m m (fun _ _ => True) W := by
  obtain ⟨cur, qq, a1, a2, a3, a4, a5, a6, a7, a8, a9, a10, a11, a12, a13, a14⟩ := hs
  exact ⟨a12.cell, fun _ => ⟨h, 0, rfl, fun k hk => ⟨_, trivial, by rw [Nat.zero_add, a7.cell, U_get _ _ (by omega)]⟩⟩⟩

/-- one round: the window has been turned, and then the quotient's limb -/
theorem DvI.step {w0 : World} {B : Option Addr} {cb xl yl m R0 b3 g d h p q bq bs : Nat} {ds dt : List Nat} {pre : List (Plc m fun _ _ => True)} {W W2 : World} {cur qq zs : List Nat} {x : Plc m fun _ _ => True} {qd : Nat}
    (a1 : cur.length = xl + 1) (a2 : Lm cur) (a3 : qq.length = m) (a4 : Lm qq) (a6 : Blk W d (U ds)) (a7 : Blk W h (U qq)) (a8 : SBox W b3 (.slice B yl cb))
    (a9 : SBox W p (.slice (some ⟨g, 0, none⟩) (xl + 1) (xl + 1))) (a10 : SBox W q (.slice (some ⟨d, 0, none⟩) yl (yl + 1))) (a11 : SBox W bq (.slice (some ⟨h, 0, none⟩) m m)) (a12 : SBox W bs (.slice (some ⟨h, 0, none⟩) m m))
    (a13 : Below w0.heap.size w0 W) (a14 : DvOrd R0 (val dt) m (pre.map plc) cur qq) (hgW : Blk W g (U cur)) (hgd : g ≠ d) (hgh : g ≠ h) (hdh : d ≠ h) (hg0 : w0.heap.size ≤ g) (hh0 : w0.heap.size ≤ h)
    (hm : m + yl = xl + 1) (hD : val dt ≤ 4294967296 ^ yl)
    (hq : qd < 4294967296) (hz : zs.length = yl + 1) (hzL : Lm zs) (hv : val zs + val dt * qd = val ((cur.drop x.1.1).take (yl + 1))) (hlow : val ((cur.drop x.1.1).take (yl + 1)) < val dt * 4294967296 → val zs < val dt)
    (hB2 : Blk W2 g (U (cur.take x.1.1 ++ zs ++ cur.drop (x.1.1 + yl + 1)))) (hG : W.grownBy W2 (some g)) :
    DvI w0 B cb xl yl m R0 (val dt) b3 g d h p q bq bs ds (pre ++ [x]) (W2.setCell ⟨h, x.1.1, none⟩ (.int .u32 (qd : Int))) := by
  have hj : x.1.1 < m := x.2.1
  have n1 : ∀ {b : Nat} {v : Value}, SBox W b v → SBox (W2.setCell ⟨h, x.1.1, none⟩ (.int .u32 (qd : Int))) b v := fun hb => (hb.grown hG (fun e => by injection e with e; exact hb.ne hgW e)).far (hb.ne a7) _
  have hQ : Blk W2 h (U qq) := a7.grown hG (fun e => by injection e with e; exact hgh e.symm)
  have hQ2 := hQ.set_ x.1.1 (.int .u32 (qd : Int))
  have e := U_set qq [] x.1.1 qd (by omega)
  rw [List.append_nil, List.append_nil] at e
  rw [e] at hQ2
  refine ⟨_, qq.set x.1.1 qd, ?_, ((a2.take _).append hzL).append (a2.drop _), by rw [List.length_set]; exact a3, a4.set_ hq, hB2.far hgh _, (a6.grown hG (fun e => by injection e with e; exact hgd e.symm)).far hdh _, hQ2, n1 a8, n1 a9, n1 a10, n1 a11, n1 a12, ?_, ?_⟩
  · simp; omega
  · exact (a13.grown hG a13.size (fun k e => by injection e with e; omega)).setCell hh0 _
  · rw [List.map_append]
    exact a14.next hj a2 (by omega) hD hz hv hlow

/-- at the loop's end -/
theorem DvI.done {R0 D m : Nat} {cur qq : List Nat} {ys : List (Plc m fun _ _ => True)} (h : DvOrd R0 D m (ys.map plc) cur qq) (hd : ys.map plc = downs m m) : val cur < D ∧ R0 = val cur + D * val qq := by
  have hl : (ys.map plc).length = m := by rw [hd, downs_len]
  obtain ⟨qs, e1, e2, e3⟩ := h (by rw [hl]; exact hd) (by omega)
  rw [hl, Nat.sub_self] at e1 e2 e3
  simp only [List.replicate_zero, List.nil_append, List.drop_zero, Nat.pow_zero, Nat.mul_one] at e1 e2 e3
  subst e1
  exact ⟨e2, e3⟩

end LM
end Go.Proofs.YtpoojlnndgoeoaaGreatDoor
