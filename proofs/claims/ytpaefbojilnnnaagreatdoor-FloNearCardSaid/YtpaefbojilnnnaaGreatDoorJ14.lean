/- Walks of package limb: Of and Small. -/
import Derived.Test.YtpaefbojilnnnaaGreatDoorJ11
import Derived.Test.YtpaefbojilnnnaaGreatDoorJ01
import Derived.Test.YtpaefbojilnnnaaGreatDoorJ13
import Derived.Laws.Rows
namespace Go.Proofs.YtpaefbojilnnnaaGreatDoor
open Go Go.RowKit
namespace LM

section
variable {F : Fence} {n : Nat} {P : Program} {ops : Array Oper} {C : World → Prop} {md : Region.Mode} {Q : Exit → Act → World → Prop} {E : Nat → Bool}

/-- what has been done is told by a state; each operation that may come next leads to a state -/
theorem wpC_states {σ : Type} (lst : σ → Array Bool) (rd : σ → List Nat) (next : σ → Nat → σ) (ok : σ → Prop) (rank : σ → Nat) (Inv : σ → Act → World → Prop) (f0 : Nat)
    (hrd : ∀ s, ok s → 0 < rank s → Region.ready md ops (lst s) = rd s) (hne : ∀ s, ok s → 0 < rank s → rd s ≠ [])
    (hnext : ∀ s, ok s → 0 < rank s → ∀ i ∈ rd s, ok (next s i) ∧ rank s = rank (next s i) + 1 ∧ lst (next s i) = (lst s).setIfInBounds i true)
    (hstep : ∀ s a w, ok s → 0 < rank s → Inv s a w → ∀ i ∈ rd s, wpOpIn F n P ops Q i (fun a' w' => (E i = false → C w') ∧ Inv (next s i) a' w') a w)
    (hend : ∀ s a w, ok s → rank s = 0 → Inv s a w → wpC F n P md ops E C Q f0 (lst s) a w) :
    ∀ (r : Nat) (s : σ) (a : Act) (w : World), rank s = r → ok s → Inv s a w → wpC F n P md ops E C Q (r + f0) (lst s) a w
  | 0, s, a, w, hr, ho, hi => by rw [Nat.zero_add]; exact hend s a w ho hr hi
  | r + 1, s, a, w, hr, ho, hi => by
    rw [show r + 1 + f0 = (r + f0) + 1 by omega]
    refine ⟨fun h => absurd ((hrd s ho (by omega)).symm.trans h) (hne s ho (by omega)), fun i hmem => ?_⟩
    rw [hrd s ho (by omega)] at hmem
    obtain ⟨h1, h2, h3⟩ := hnext s ho (by omega) i hmem
    refine wpOpIn_mono (fun a' w' h => ⟨h.1, ?_⟩) (hstep s a w ho (by omega) hi i hmem)
    rw [← h3]
    exact wpC_states lst rd next ok rank Inv f0 hrd hne hnext hstep hend r (next s i) a' w' (by omega) h1 h.2
end

theorem wpC_listed {F : Fence} {n : Nat} {P : Program} {ops : Array Oper} {C : World → Prop} {md : Region.Mode} {Q : Exit → Act → World → Prop} {E : Nat → Bool} {fuel : Nat} {listed : Array Bool} {a : Act} {w : World} (l' : Array Bool) (h : listed = l')
    (k : wpC F n P md ops E C Q fuel l' a w) : wpC F n P md ops E C Q fuel listed a w := h ▸ k

/-- the states of the long division's first region: how many of the chain's three calls are over, and which of the two boxes are there -/
def s9lst (s : Nat × Bool × Bool) : Array Bool := #[true, true, decide (1 ≤ s.1), true, true, decide (2 ≤ s.1), decide (3 ≤ s.1), s.2.1, s.2.2, false, false]
def s9rd (s : Nat × Bool × Bool) : List Nat := (if s.1 = 0 then [2] else if s.1 = 1 then [5] else if s.1 = 2 then [6] else []) ++ (if s.2.1 then [] else [7]) ++ (if s.2.2 then [] else [8])
def s9next (s : Nat × Bool × Bool) (i : Nat) : Nat × Bool × Bool := if i = 7 then (s.1, true, s.2.2) else if i = 8 then (s.1, s.2.1, true) else (s.1 + 1, s.2.1, s.2.2)
def s9rank (s : Nat × Bool × Bool) : Nat := (3 - s.1) + (if s.2.1 then 0 else 1) + (if s.2.2 then 0 else 1)
theorem s9_mem {k : Nat} {b7 b8 : Bool} {i : Nat} (h : i ∈ s9rd (k, b7, b8)) : (i = 2 ∧ k = 0) ∨ (i = 5 ∧ k = 1) ∨ (i = 6 ∧ k = 2) ∨ (i = 7 ∧ b7 = false) ∨ (i = 8 ∧ b8 = false) := by
  unfold s9rd at h
  simp only [List.mem_append] at h
  rcases h with (h | h) | h
  · split at h
    · simp at h; omega
    · split at h
      · simp at h; omega
      · split at h
        · simp at h; omega
        · cases h
  · cases b7 <;> simp at h; exact .inr (.inr (.inr (.inl ⟨h, rfl⟩)))
  · cases b8 <;> simp at h; exact .inr (.inr (.inr (.inr ⟨h, rfl⟩)))
theorem s9_ne {s : Nat × Bool × Bool} (h1 : s.1 ≤ 3) (h : 0 < s9rank s) : s9rd s ≠ [] := by
  obtain ⟨k, b7, b8⟩ := s
  unfold s9rank at h
  unfold s9rd
  have : k = 0 ∨ k = 1 ∨ k = 2 ∨ k = 3 := by simp at h1; omega
  rcases this with rfl | rfl | rfl | rfl <;> cases b7 <;> cases b8 <;> simp at h ⊢
theorem s9_next {s : Nat × Bool × Bool} (h1 : s.1 ≤ 3) {i : Nat} (hi : i ∈ s9rd s) : (s9next s i).1 ≤ 3 ∧ s9rank s = s9rank (s9next s i) + 1 ∧ s9lst (s9next s i) = (s9lst s).setIfInBounds i true := by
  obtain ⟨k, b7, b8⟩ := s
  have hk : k = 0 ∨ k = 1 ∨ k = 2 ∨ k = 3 := by simp at h1; omega
  rcases s9_mem hi with ⟨rfl, rfl⟩ | ⟨rfl, rfl⟩ | ⟨rfl, rfl⟩ | ⟨rfl, rfl⟩ | ⟨rfl, rfl⟩
  · cases b7 <;> cases b8 <;> decide
  · cases b7 <;> cases b8 <;> decide
  · cases b7 <;> cases b8 <;> decide
  · rcases hk with rfl | rfl | rfl | rfl <;> cases b8 <;> decide
  · rcases hk with rfl | rfl | rfl | rfl <;> cases b7 <;> decide
theorem s9_done {s : Nat × Bool × Bool} (h1 : s.1 ≤ 3) (h : s9rank s = 0) : s = (3, true, true) := by
  obtain ⟨k, b7, b8⟩ := s
  unfold s9rank at h
  cases b7 <;> cases b8 <;> simp at h h1 ⊢ <;> omega

/-- before the first round the highest limbs of the shifted number are below the divisor -/
theorem div_start {xs ys zs : List Nat} {s D : Nat} (hx : Lm xs) (hz : zs.length = xs.length + 1) (hv : val zs = val xs * 2 ^ s) (hy : Can ys) (hn : 0 < ys.length) (hle : ys.length ≤ xs.length) (hD : D = val ys * 2 ^ s) :
    val (zs.drop (xs.length - ys.length + 1)) < D := by
  have h1 := val_lt hx
  have e1 := val_split zs (xs.length - ys.length + 1)
  rw [Nat.min_eq_left (by omega)] at e1
  obtain ⟨m, hm⟩ : ∃ m, ys.length = m + 1 := ⟨ys.length - 1, by omega⟩
  have h2 := (can_len hy m).1 (by omega)
  have h3 : xs.length = (xs.length - ys.length + 1) + m := by omega
  rw [h3, Nat.pow_add] at h1
  generalize xs.length - ys.length + 1 = k at *
  have hN : 0 < 2 ^ s := Nat.pow_pos (by decide)
  have hP : 0 < 4294967296 ^ k := Nat.pow_pos (by decide)
  generalize 2 ^ s = N at *
  generalize 4294967296 ^ k = P at *
  generalize 4294967296 ^ m = M at *
  have h4 := Nat.mul_lt_mul_of_pos_right h1 hN
  have h5 := Nat.mul_le_mul_right N h2
  rw [← hv] at h4
  have h6 : P * val (zs.drop k) < P * (M * N) := by rw [← Nat.mul_assoc]; omega
  have h7 := Nat.lt_of_mul_lt_mul_left h6
  omega

theorem can_top {xs : List Nat} (h : Can xs) (hn : 0 < xs.length) : xs[xs.length - 1]?.getD 0 ≠ 0 := by
  have hne : xs ≠ [] := by intro e; subst e; simp at hn
  have h1 := can_last (xs := xs.dropLast) (y := xs.getLast hne) (by rw [List.dropLast_concat_getLast hne]; exact h)
  rw [List.getLast_eq_getElem] at h1
  rw [List.getElem?_eq_getElem (by omega)]; exact h1

/-- a box of a slice -/
def SBox (w : World) (p : Nat) (v : Value) : Prop := w.heap[p]? = some (.cells #[v] 36 (0, 0))
section
variable {w w' : World} {p g : Nat} {v u : Value} {cs : List Value}
theorem SBox.lt (h : SBox w p v) : p < w.heap.size := by
  rcases Nat.lt_or_ge p w.heap.size with hlt | hge
  · exact hlt
  · unfold SBox at h; rw [Array.getElem?_eq_none hge] at h; cases h
theorem SBox.cell (h : SBox w p v) : w.cell? ⟨p, 0, none⟩ = some v := by rw [cell_of_row w p 0 #[v] 36 (0, 0) h]; rfl
theorem SBox.frozen (h : SBox w p v) : w.frozen? ⟨p, 0, none⟩ = false := by unfold SBox at h; simp [World.frozen?, h]
theorem SBox.new (w : World) (v : Value) : SBox (w.alloc (.cells #[v] 36)) w.heap.size v := heap_alloc_new w _
theorem SBox.drew (h : SBox w p v) : SBox w.drew p v := h
theorem SBox.drewN (h : SBox w p v) (n : Nat) : SBox (w.drewN n) p v := h
theorem SBox.alloc (h : SBox w p v) (o : Obj) : SBox (w.alloc o) p v := (Below.heap_alloc w o p h.lt).trans h
theorem SBox.below {B : Nat} (h : SBox w p v) (hb : Below B w w') (hp : p < B) : SBox w' p v := (hb.block p hp).trans h
theorem SBox.grown {row : Option Nat} (h : SBox w p v) (hb : w.grownBy w' row) (hp : some p ≠ row) : SBox w' p v := (hb.block p h.lt hp).trans h
theorem SBox.far (h : SBox w p v) {q : Addr} (hq : p ≠ q.block) (u : Value) : SBox (w.setCell q u) p v := (Below.heap_setCell w q u p hq).trans h
theorem SBox.set_ (h : SBox w p v) (u : Value) : SBox (w.setCell ⟨p, 0, none⟩ u) p u := by
  unfold SBox at h ⊢
  simp [World.setCell, Array.getElem?_modify, h]
theorem SBox.ne (h : SBox w p v) (hb : Blk w g cs) : p ≠ g := by
  rintro rfl
  unfold SBox at h; unfold Blk at hb
  rw [h] at hb
  simp at hb
theorem SBox.kept {row : Option Nat} (h : SBox w p v) (hg : w.grownBy w' row) (hr : ∀ r, row = some r → ∃ o : Obj, w.heap[r]? = some o ∧ o.isCells = false) : SBox w' p v :=
  h.grown hg fun e => by
    obtain ⟨o, ho, hc⟩ := hr p e.symm
    unfold SBox at h; rw [h] at ho; injection ho with ho; subst ho; cases hc
end

/-- the region that makes the shifted numbers and their boxes: k of the chain's calls and the two boxes may be there -/
def R9 (w0 : World) (xs ys : List Nat) (s : Nat) (k : Nat) (b7 b8 : Bool) (v8 v9 v44 v47 v48 : Value) (W : World) : Prop :=
  ∃ (g d p q : Nat) (zs ds : List Nat), Below w0.heap.size w0 W ∧
    (1 ≤ k → v44 = .slice (some ⟨g, 0, none⟩) (xs.length + 1) (xs.length + 1) ∧ w0.heap.size ≤ g ∧ Blk W g (U zs) ∧ zs.length = xs.length + 1 ∧ Lm zs ∧ val zs = val xs * 2 ^ s) ∧
    (2 ≤ k → v47 = .slice (some ⟨d, 0, none⟩) (ys.length + 1) (ys.length + 1) ∧ w0.heap.size ≤ d ∧ Blk W d (U ds) ∧ ds.length = ys.length + 1 ∧ Lm ds ∧ val ds = val ys * 2 ^ s ∧ g ≠ d) ∧
    (3 ≤ k → v48 = .slice (some ⟨d, 0, none⟩) (trim ds).length (ys.length + 1)) ∧
    (b7 = true → v8 = .pointer (some ⟨p, 0, none⟩) ∧ w0.heap.size ≤ p ∧ SBox W p (.slice none 0 0)) ∧
    (b8 = true → v9 = .pointer (some ⟨q, 0, none⟩) ∧ w0.heap.size ≤ q ∧ SBox W q (.slice none 0 0)) ∧
    (b7 = true → b8 = true → p ≠ q)

section
variable {w0 W W' : World} {xs ys : List Nat} {s k : Nat} {b7 b8 : Bool} {v8 v9 v44 v47 v48 : Value}
theorem R9.start (w0 : World) (xs ys : List Nat) (s : Nat) (v8 v9 v44 v47 v48 : Value) : R9 w0 xs ys s 0 false false v8 v9 v44 v47 v48 w0.drew :=
  ⟨0, 0, 0, 0, [], [], (Below.refl _ _).drew, fun h => by omega, fun h => by omega, fun h => by omega, (fun h => by cases h), (fun h => by cases h), (fun h => by cases h)⟩
theorem R9.below (h : R9 w0 xs ys s k b7 b8 v8 v9 v44 v47 v48 W) : Below w0.heap.size w0 W := by
  obtain ⟨g, d, p, q, zs, ds, h0, _⟩ := h; exact h0
theorem R9.c2 {zs : List Nat} (h : R9 w0 xs ys s 0 b7 b8 v8 v9 v44 v47 v48 W) (h1 : zs.length = xs.length + 1) (h2 : Lm zs) (h3 : val zs = val xs * 2 ^ s) (h4 : Blk W' W.heap.size (U zs)) (h5 : Below W.heap.size W W') :
    R9 w0 xs ys s 1 b7 b8 v8 v9 (.slice (some ⟨W.heap.size, 0, none⟩) (xs.length + 1) (xs.length + 1)) v47 v48 W' := by
  obtain ⟨g, d, p, q, zs', ds, a0, a1, a2, a3, a4, a5, a6⟩ := h
  refine ⟨W.heap.size, d, p, q, zs, ds, a0.trans (h5.mono a0.size), fun _ => ⟨rfl, a0.size, h4, h1, h2, h3⟩, fun h => by omega, fun h => by omega, fun h => ?_, fun h => ?_, a6⟩
  · obtain ⟨b1, b2, b3⟩ := a4 h; exact ⟨b1, b2, b3.below h5 b3.lt⟩
  · obtain ⟨b1, b2, b3⟩ := a5 h; exact ⟨b1, b2, b3.below h5 b3.lt⟩
theorem R9.c5 {ds : List Nat} (h : R9 w0 xs ys s 1 b7 b8 v8 v9 v44 v47 v48 W) (h1 : ds.length = ys.length + 1) (h2 : Lm ds) (h3 : val ds = val ys * 2 ^ s) (h4 : Blk W' W.heap.size (U ds)) (h5 : Below W.heap.size W W') :
    R9 w0 xs ys s 2 b7 b8 v8 v9 v44 (.slice (some ⟨W.heap.size, 0, none⟩) (ys.length + 1) (ys.length + 1)) v48 W' := by
  obtain ⟨g, d, p, q, zs, ds', a0, a1, a2, a3, a4, a5, a6⟩ := h
  obtain ⟨c1, c2, c3, c4, c5, c6⟩ := a1 (Nat.le_refl _)
  refine ⟨g, W.heap.size, p, q, zs, ds, a0.trans (h5.mono a0.size), fun _ => ⟨c1, c2, c3.below h5 c3.lt, c4, c5, c6⟩, fun _ => ⟨rfl, a0.size, h4, h1, h2, h3, fun e => by have := c3.lt; omega⟩, fun h => by omega, fun h => ?_, fun h => ?_, a6⟩
  · obtain ⟨b1, b2, b3⟩ := a4 h; exact ⟨b1, b2, b3.below h5 b3.lt⟩
  · obtain ⟨b1, b2, b3⟩ := a5 h; exact ⟨b1, b2, b3.below h5 b3.lt⟩
theorem R9.a7 (h : R9 w0 xs ys s k false b8 v8 v9 v44 v47 v48 W) : R9 w0 xs ys s k true b8 (.pointer (some ⟨W.heap.size, 0, none⟩)) v9 v44 v47 v48 (W.alloc (.cells #[.slice none 0 0] 36)) := by
  obtain ⟨g, d, p, q, zs, ds, a0, a1, a2, a3, a4, a5, a6⟩ := h
  have h5 : Below W.heap.size W (W.alloc (.cells #[.slice none 0 0] 36)) := (Below.refl _ W).alloc (Nat.le_refl _) _
  refine ⟨g, d, W.heap.size, q, zs, ds, a0.trans (h5.mono a0.size), fun h => ?_, fun h => ?_, a3, fun _ => ⟨rfl, a0.size, SBox.new W _⟩, fun h => ?_, fun _ h => ?_⟩
  · obtain ⟨c1, c2, c3, c4, c5, c6⟩ := a1 h; exact ⟨c1, c2, c3.alloc _, c4, c5, c6⟩
  · obtain ⟨c1, c2, c3, c4, c5, c6⟩ := a2 h; exact ⟨c1, c2, c3.alloc _, c4, c5, c6⟩
  · obtain ⟨b1, b2, b3⟩ := a5 h; exact ⟨b1, b2, b3.alloc _⟩
  · obtain ⟨b1, b2, b3⟩ := a5 h; have := b3.lt; omega
theorem R9.a8 (h : R9 w0 xs ys s k b7 false v8 v9 v44 v47 v48 W) : R9 w0 xs ys s k b7 true v8 (.pointer (some ⟨W.heap.size, 0, none⟩)) v44 v47 v48 (W.alloc (.cells #[.slice none 0 0] 36)) := by
  obtain ⟨g, d, p, q, zs, ds, a0, a1, a2, a3, a4, a5, a6⟩ := h
  have h5 : Below W.heap.size W (W.alloc (.cells #[.slice none 0 0] 36)) := (Below.refl _ W).alloc (Nat.le_refl _) _
  refine ⟨g, d, p, W.heap.size, zs, ds, a0.trans (h5.mono a0.size), fun h => ?_, fun h => ?_, a3, fun h => ?_, fun _ => ⟨rfl, a0.size, SBox.new W _⟩, fun h _ => ?_⟩
  · obtain ⟨c1, c2, c3, c4, c5, c6⟩ := a1 h; exact ⟨c1, c2, c3.alloc _, c4, c5, c6⟩
  · obtain ⟨c1, c2, c3, c4, c5, c6⟩ := a2 h; exact ⟨c1, c2, c3.alloc _, c4, c5, c6⟩
  · obtain ⟨b1, b2, b3⟩ := a4 h; exact ⟨b1, b2, b3.alloc _⟩
  · obtain ⟨b1, b2, b3⟩ := a4 h; have := b3.lt; omega
/-- the divisor is trimmed -/
theorem R9.c6 (h : R9 w0 xs ys s 2 b7 b8 v8 v9 v44 v47 v48 W) : ∃ d ds, v47 = .slice (some ⟨d, 0, none⟩) (List.length ds) (ys.length + 1) ∧ ds.length = ys.length + 1 ∧ Rd W (some ⟨d, 0, none⟩) ds ∧
    R9 w0 xs ys s 3 b7 b8 v8 v9 v44 v47 (.slice (some ⟨d, 0, none⟩) (trim ds).length (ys.length + 1)) W := by
  obtain ⟨g, d, p, q, zs, ds, a0, a1, a2, a3, a4, a5, a6⟩ := h
  obtain ⟨c1, c2, c3, c4, c5, c6, c7⟩ := a2 (Nat.le_refl _)
  exact ⟨d, ds, by rw [c4]; exact c1, c4, Rd.of_blk (pre := []) (post := []) (by simpa using c3), g, d, p, q, zs, ds, a0, fun _ => a1 (by omega), fun _ => a2 (Nat.le_refl _), fun _ => rfl, a4, a5, a6⟩

/-- what is there when both are stored -/
def R9D (w0 : World) (xs ys : List Nat) (s : Nat) (v8 v9 : Value) (W : World) : Prop :=
  ∃ (g d p q : Nat) (zs ds : List Nat), Below w0.heap.size w0 W ∧ w0.heap.size ≤ g ∧ w0.heap.size ≤ d ∧ w0.heap.size ≤ p ∧ w0.heap.size ≤ q ∧ g ≠ d ∧
    v8 = .pointer (some ⟨p, 0, none⟩) ∧ v9 = .pointer (some ⟨q, 0, none⟩) ∧ SBox W p (.slice (some ⟨g, 0, none⟩) (xs.length + 1) (xs.length + 1)) ∧ SBox W q (.slice (some ⟨d, 0, none⟩) (trim ds).length (ys.length + 1)) ∧
    Blk W g (U zs) ∧ zs.length = xs.length + 1 ∧ Lm zs ∧ val zs = val xs * 2 ^ s ∧ Blk W d (U ds) ∧ ds.length = ys.length + 1 ∧ Lm ds ∧ val ds = val ys * 2 ^ s
theorem R9D.below (h : R9D w0 xs ys s v8 v9 W) : Below w0.heap.size w0 W := by
  obtain ⟨g, d, p, q, zs, ds, h0, _⟩ := h; exact h0
theorem R9.stores (h : R9 w0 xs ys s 3 true true v8 v9 v44 v47 v48 W) : ∃ p q : Nat, v8 = .pointer (some ⟨p, 0, none⟩) ∧ v9 = .pointer (some ⟨q, 0, none⟩) ∧ p ≠ q ∧ SBox W p (.slice none 0 0) ∧ SBox W q (.slice none 0 0) ∧
    (∃ g d n, v44 = .slice (some ⟨g, 0, none⟩) (xs.length + 1) (xs.length + 1) ∧ v48 = .slice (some ⟨d, 0, none⟩) n (ys.length + 1)) ∧ R9D w0 xs ys s v8 v9 ((W.setCell ⟨p, 0, none⟩ v44).setCell ⟨q, 0, none⟩ v48) := by
  obtain ⟨g, d, p, q, zs, ds, a0, a1, a2, a3, a4, a5, a6⟩ := h
  obtain ⟨c1, c2, c3, c4, c5, c6⟩ := a1 (by omega)
  obtain ⟨d1, d2, d3, d4, d5, d6, d7⟩ := a2 (by omega)
  have e1 := a3 (Nat.le_refl _)
  obtain ⟨p1, p2, p3⟩ := a4 rfl
  obtain ⟨q1, q2, q3⟩ := a5 rfl
  have hpq := a6 rfl rfl
  refine ⟨p, q, p1, q1, hpq, p3, q3, ⟨g, d, _, c1, e1⟩, g, d, p, q, zs, ds, ?_, c2, d2, p2, q2, d7, p1, q1, ?_, ?_, ?_, c4, c5, c6, ?_, d4, d5, d6⟩
  · exact (a0.setCell p2 _).setCell q2 _
  · rw [c1]; exact (p3.set_ _).far hpq _
  · rw [e1]; exact (q3.far (Ne.symm hpq) _).set_ _
  · exact (c3.far (p := ⟨p, 0, none⟩) (Ne.symm (p3.ne c3)) _).far (p := ⟨q, 0, none⟩) (Ne.symm (q3.ne c3)) _
  · exact (d3.far (p := ⟨p, 0, none⟩) (Ne.symm (p3.ne d3)) _).far (p := ⟨q, 0, none⟩) (Ne.symm (q3.ne d3)) _
end

end LM
end Go.Proofs.YtpaefbojilnnnaaGreatDoor

namespace Go.Proofs.YtpaefbojilnnnaaGreatDoor
open Go Go.RowKit
namespace LM

/-- what the places that have come, if they came in order, have made of the rest and of the quotient -/
def DvOrd (R0 D m : Nat) (pl cur qq : List Nat) : Prop :=
  pl = downs m pl.length → pl.length ≤ m → ∃ qs, qq = List.replicate (m - pl.length) 0 ++ qs ∧ val (cur.drop (m - pl.length)) < D ∧ R0 = val cur + D * 4294967296 ^ (m - pl.length) * val qs

theorem set_rep (j q : Nat) (qs : List Nat) : (List.replicate (j + 1) 0 ++ qs).set j q = List.replicate j 0 ++ q :: qs := by
  rw [List.replicate_succ', List.append_assoc, List.set_append_right _ _ (by simp)]
  simp

theorem DvOrd.next {R0 D m n j qd : Nat} {pl cur qq zs : List Nat} (h : DvOrd R0 D m pl cur qq) (hj : j < m) (hL : Lm cur) (hlen : cur.length = m + n) (hD : D ≤ 4294967296 ^ n) (hz : zs.length = n + 1)
    (hv : val zs + D * qd = val ((cur.drop j).take (n + 1))) (hlow : val ((cur.drop j).take (n + 1)) < D * 4294967296 → val zs < D) :
    DvOrd R0 D m (pl ++ [j]) (cur.take j ++ zs ++ cur.drop (j + n + 1)) (qq.set j qd) := by
  intro hd hl
  rw [List.length_append, List.length_singleton] at hd hl ⊢
  rw [downs_succ] at hd
  obtain ⟨e1, e2⟩ := List.append_inj' hd rfl
  have e3 : j = m - 1 - pl.length := by simpa using e2
  obtain ⟨qs, e4, e5, e6⟩ := h e1 (by omega)
  have hm : m - pl.length = j + 1 := by omega
  have hm2 : m - (pl.length + 1) = j := by omega
  rw [hm] at e4 e5 e6
  rw [hm2]
  obtain ⟨w1, w2, w3⟩ := win_val (i := j) (n := n) hL (by omega) e5 hD
  rw [← w1] at w3
  have h1 := hlow w3
  obtain ⟨r1, r2, r3⟩ := div_round (i := j) (n := n) (zs := zs) (q := qd) (qs := qs) (by omega) hz w2 w1 e6 hv
  exact ⟨qd :: qs, by rw [e4, set_rep], by rw [r2]; exact h1, r1⟩

theorem DvOrd.start {R0 D m : Nat} {cur : List Nat} (h : val (cur.drop m) < D) (hv : R0 = val cur) : DvOrd R0 D m [] cur (List.replicate m 0) :=
  fun _ _ => ⟨[], by simp, by simpa using h, by simpa [val] using hv⟩

/-- the long division's memory between two rounds: b3 holds the divisor as it came, p the rest, q the shifted divisor, bq the quotient, bs the quotient for the library's loop -/
def DvI (w0 : World) (B : Option Addr) (cb xl yl m R0 D b3 g d h p q bq bs : Nat) (ds : List Nat) (pre : List (Plc m fun _ _ => True)) (W : World) : Prop :=
  ∃ (cur qq : List Nat), cur.length = xl + 1 ∧ Lm cur ∧ qq.length = m ∧ Lm qq ∧ Blk W g (U cur) ∧ Blk W d (U ds) ∧ Blk W h (U qq) ∧ SBox W b3 (.slice B yl cb) ∧
    SBox W p (.slice (some ⟨g, 0, none⟩) (xl + 1) (xl + 1)) ∧ SBox W q (.slice (some ⟨d, 0, none⟩) yl (yl + 1)) ∧ SBox W bq (.slice (some ⟨h, 0, none⟩) m m) ∧ SBox W bs (.slice (some ⟨h, 0, none⟩) m m) ∧
    Below w0.heap.size w0 W ∧ DvOrd R0 D m (pre.map plc) cur qq

theorem DvI.own {w0 : World} {B : Option Addr} {cb xl yl m R0 D b3 g d h p q bq bs : Nat} {ds : List Nat} {B0 : Nat} (hB : w0.heap.size ≤ B0) : OwnFrom B0 (DvI w0 B cb xl yl m R0 D b3 g d h p q bq bs ds) := fun _ _ _ _ hs hg hr => by
  obtain ⟨cur, qq, a1, a2, a3, a4, a5, a6, a7, a8, a9, a10, a11, a12, a13, a14⟩ := hs
  have hr2 := fun r e => (hr r e).2
  exact ⟨cur, qq, a1, a2, a3, a4, a5.kept hg hr2, a6.kept hg hr2, a7.kept hg hr2, a8.kept hg hr2, a9.kept hg hr2, a10.kept hg hr2, a11.kept hg hr2, a12.kept hg hr2,
    a13.grown hg a13.size (fun r e => Nat.le_trans hB (hr r e).1), a14⟩

/-- the library's loop can go on -/
theorem DvI.bw {w0 : World} {B : Option Addr} {cb xl yl m R0 D b3 g d h p q bq bs : Nat} {ds : List Nat} {pre : List (Plc m fun _ _ => True)} {W : World} (hs : DvI w0 B cb xl yl m R0 D b3 g d h p q bq bs ds pre W) :
    BwOk bs (some ⟨h, 0, none⟩) m m (fun _ _ => True) W := by
  obtain ⟨cur, qq, a1, a2, a3, a4, a5, a6, a7, a8, a9, a10, a11, a12, a13, a14⟩ := hs
  exact ⟨a12.cell, fun _ => ⟨h, 0, rfl, fun k hk => ⟨_, trivial, by rw [Nat.zero_add, a7.cell, U_get _ _ (by omega)]⟩⟩⟩

/-- one round: the window has been turned, and then the quotient's limb -/
theorem DvI.step {w0 : World} {B : Option Addr} {cb xl yl m R0 b3 g d h p q bq bs : Nat} {ds dt : List Nat} {pre : List (Plc m fun _ _ => True)} {W W2 : World} {cur qq zs : List Nat} {x : Plc m fun _ _ => True} {qd : Nat}
    (a1 : cur.length = xl + 1) (a2 : Lm cur) (a3 : qq.length = m) (a4 : Lm qq) (a6 : Blk W d (U ds)) (a7 : Blk W h (U qq)) (a8 : SBox W b3 (.slice B yl cb))
    (a9 : SBox W p (.slice (some ⟨g, 0, none⟩) (xl + 1) (xl + 1))) (a10 : SBox W q (.slice (some ⟨d, 0, none⟩) yl (yl + 1))) (a11 : SBox W bq (.slice (some ⟨h, 0, none⟩) m m)) (a12 : SBox W bs (.slice (some ⟨h, 0, none⟩) m m))
    (a13 : Below w0.heap.size w0 W) (a14 : DvOrd R0 (val dt) m (pre.map plc) cur qq) (hgW : Blk W g (U cur)) (hgd : g ≠ d) (hgh : g ≠ h) (hdh : d ≠ h) (hg0 : w0.heap.size ≤ g) (hh0 : w0.heap.size ≤ h)
    (hm : m + yl = xl + 1) (hD : val dt ≤ 4294967296 ^ yl)
    (hq : qd < 4294967296) (hz : zs.length = yl + 1) (hzL : Lm zs) (hv : val zs + val dt * qd = val ((cur.drop x.1.1).take (yl + 1))) (hlow : val ((cur.drop x.1.1).take (yl + 1)) < val dt * 4294967296 → val zs < val dt)
    (hB2 : Blk W2 g (U (cur.take x.1.1 ++ zs ++ cur.drop (x.1.1 + yl + 1)))) (hG : W.grownBy W2 (some g)) :
    DvI w0 B cb xl yl m R0 (val dt) b3 g d h p q bq bs ds (pre ++ [x]) (W2.setCell ⟨h, x.1.1, none⟩ (.int .u32 (qd : Int))) := by
  have hj : x.1.1 < m := x.2.1
  have n1 : ∀ {b : Nat} {v : Value}, SBox W b v → SBox (W2.setCell ⟨h, x.1.1, none⟩ (.int .u32 (qd : Int))) b v := fun hb => (hb.grown hG (fun e => by injection e with e; exact hb.ne hgW e)).far (hb.ne a7) _
  have hQ : Blk W2 h (U qq) := a7.grown hG (fun e => by injection e with e; exact hgh e.symm)
  have hQ2 := hQ.set_ x.1.1 (.int .u32 (qd : Int))
  have e := U_set qq [] x.1.1 qd (by omega)
  rw [List.append_nil, List.append_nil] at e
  rw [e] at hQ2
  refine ⟨_, qq.set x.1.1 qd, ?_, ((a2.take _).append hzL).append (a2.drop _), by rw [List.length_set]; exact a3, a4.set_ hq, hB2.far hgh _, (a6.grown hG (fun e => by injection e with e; exact hgd e.symm)).far hdh _, hQ2, n1 a8, n1 a9, n1 a10, n1 a11, n1 a12, ?_, ?_⟩
  · simp; omega
  · exact (a13.grown hG a13.size (fun k e => by injection e with e; omega)).setCell hh0 _
  · rw [List.map_append]
    exact a14.next hj a2 (by omega) hD hz hv hlow

/-- at the loop's end -/
theorem DvI.done {R0 D m : Nat} {cur qq : List Nat} {ys : List (Plc m fun _ _ => True)} (h : DvOrd R0 D m (ys.map plc) cur qq) (hd : ys.map plc = downs m m) : val cur < D ∧ R0 = val cur + D * val qq := by
  have hl : (ys.map plc).length = m := by rw [hd, downs_len]
  obtain ⟨qs, e1, e2, e3⟩ := h (by rw [hl]; exact hd) (by omega)
  rw [hl, Nat.sub_self] at e1 e2 e3
  simp only [List.replicate_zero, List.nil_append, List.drop_zero, Nat.pow_zero, Nat.mul_one] at e1 e2 e3
  subst e1
  exact ⟨e2, e3⟩

end LM
end Go.Proofs.YtpaefbojilnnnaaGreatDoor

namespace Go.Proofs.YtpaefbojilnnnaaGreatDoor
open Go.RowKit
namespace LM

/-- what a division answers -/
def DivE (w : World) (x y : Nat) (e : Ending) (w' : World) : Prop :=
  ∃ (q r : Value) (er : Int), e = .returned (.tuple #[q, r, .int .i64 er]) ∧ Below w.heap.size w w' ∧
    (((BIG x ∨ BIG y) ∧ q = .slice none 0 0 ∧ r = .slice none 0 0 ∧ er = 11) ∨
     (¬ BIG x ∧ ¬ BIG y ∧ y = 0 ∧ q = .slice none 0 0 ∧ r = .slice none 0 0 ∧ er = 12) ∨
     (¬ BIG x ∧ ¬ BIG y ∧ 0 < y ∧ er = 0 ∧ NumV w' q (x / y) ∧ NumV w' r (x % y)))

theorem numV_nil (w : World) : NumV w (.slice none 0 0) 0 := ⟨none, 0, [], rfl, Nat.le_refl _, by decide, Rd.nil, can_nil, rfl⟩

set_option maxRecDepth 100000 in
set_option maxHeartbeats 1000000 in
theorem div_small (A B : Option Addr) (ca cb : Nat) (xs ys : List Nat) (w : World) (ha : Rd w A xs) (hb : Rd w B ys) (hx : Lm xs) (hy : Lm ys) (hca : xs.length ≤ ca) (hcb : ys.length ≤ cb) (hcam : ca ≤ 9223372036854775807) (hcbm : cb ≤ 9223372036854775807)
    (hs : BIG (val xs) ∨ BIG (val ys) ∨ val ys = 0 ∨ (trim xs).length < (trim ys).length) :
    Calls Tryz.prog 152 #[.slice A xs.length ca, .slice B ys.length cb] w fun e w' => DivE w (val xs) (val ys) e w' := by
  have H1 := Lib.hid (fun W (h : Rd W A xs) => trimmed_any A ca xs W h hca (by unfold maxLen; omega))
  have H2 := Lib.hid (fun W (h : Rd W B ys) => trimmed_any B cb ys W h hcb (by unfold maxLen; omega))
  have hta := ha.trim
  have hcx := can_trim hx
  have hcy := can_trim hy
  rw [← val_trim xs, ← val_trim ys] at hs ⊢
  have hlx := trim_length_le xs
  have hly := trim_length_le ys
  have htt := trim_trim xs
  have ha3 := (ha.alloc (.cells #[.slice B ys.length cb] 36)).drew
  have hb3 := (hb.alloc (.cells #[.slice B ys.length cb] 36)).drew
  generalize trim xs = xt at *
  generalize trim ys = yt at *
  have I1 : ∀ n, n ≤ 9223372036854775807 → ∀ A c W, Calls Tryz.prog 195 #[.slice A n c] W fun e w' => e = .returned (.bool (decide (64 < n))) ∧ W = w' := fun n hn A c W => isBig_any A n c W (by unfold maxLen; omega)
  have HI := Lib.hid I1
  have HS := Lib.hid hs
  have HTT := Lib.hid htt
  clear I1 ha hb hs htt
  by_cases b1 : 64 < xt.length
  · have hd : decide (64 < xt.length) = true := decide_eq_true b1
    go_enter Tryz.func152, Tryz.ntmps152
    go_wp2_with fail
    go_region_with (first | (go_at_call_of 147 (Value.slice A xs.length ca); refine (H1.out _ ha3).mono ?_; rintro e w1 ⟨rfl, rfl⟩) | (go_at_call_of 147 (Value.slice B ys.length cb); refine (H2.out _ hb3).mono ?_; rintro e w1 ⟨rfl, rfl⟩))
    all_goals
      go_wp2_with (go_at_call 195; refine (HI.out xt.length (by omega) _ _ _).mono ?_; rintro e w' ⟨rfl, rfl⟩)
      go_ret3
      exact ⟨_, _, _, rfl, ((Below.refl _ w).alloc (Nat.le_refl _) _).drew, .inl ⟨.inl ((big_iff hcx).1 b1), rfl, rfl, rfl⟩⟩
  · have hd : decide (64 < xt.length) = false := decide_eq_false b1
    have nb1 : ¬ BIG (val xt) := fun h => b1 ((big_iff hcx).2 h)
    by_cases b2 : 64 < yt.length
    · have hd2 : decide (64 < yt.length) = true := decide_eq_true b2
      go_enter Tryz.func152, Tryz.ntmps152
      go_wp2_with fail
      go_region_with (first | (go_at_call_of 147 (Value.slice A xs.length ca); refine (H1.out _ ha3).mono ?_; rintro e w1 ⟨rfl, rfl⟩) | (go_at_call_of 147 (Value.slice B ys.length cb); refine (H2.out _ hb3).mono ?_; rintro e w1 ⟨rfl, rfl⟩))
      all_goals
        go_wp2_with fail
        refine (HI.out xt.length (by omega) _ _ _).mono ?_; rintro e w' ⟨rfl, rfl⟩
        go_wp2_with fail
        refine (HI.out yt.length (by omega) _ _ _).mono ?_; rintro e w' ⟨rfl, rfl⟩
        go_wp2
        go_ret3
        exact ⟨_, _, _, rfl, ((Below.refl _ w).alloc (Nat.le_refl _) _).drew, .inl ⟨.inr ((big_iff hcy).1 b2), rfl, rfl, rfl⟩⟩
    · have hd2 : decide (64 < yt.length) = false := decide_eq_false b2
      have nb2 : ¬ BIG (val yt) := fun h => b2 ((big_iff hcy).2 h)
      rcases Nat.eq_zero_or_pos yt.length with h0 | h0
      · have hyz : yt = [] := List.eq_nil_of_length_eq_zero h0
        have HY := Lib.hid hyz
        have h0' : ((yt.length : Int) == 0) = true := by rw [h0]; rfl
        have h0'' : yt.length = 0 := h0
        clear hyz h0
        go_enter Tryz.func152, Tryz.ntmps152
        go_wp2_with fail
        go_region_with (first | (go_at_call_of 147 (Value.slice A xs.length ca); refine (H1.out _ ha3).mono ?_; rintro e w1 ⟨rfl, rfl⟩) | (go_at_call_of 147 (Value.slice B ys.length cb); refine (H2.out _ hb3).mono ?_; rintro e w1 ⟨rfl, rfl⟩))
        all_goals
          go_wp2_with fail
          refine (HI.out xt.length (by omega) _ _ _).mono ?_; rintro e w' ⟨rfl, rfl⟩
          go_wp2_with fail
          refine (HI.out _ (by omega) _ _ _).mono ?_; rintro e w' ⟨rfl, rfl⟩
          go_wp2
          go_ret3
          exact ⟨_, _, _, rfl, ((Below.refl _ w).alloc (Nat.le_refl _) _).drew, .inr (.inl ⟨nb1, nb2, by rw [HY.out]; rfl, rfl, rfl, rfl⟩)⟩
      · have hlt : xt.length < yt.length := by
          rcases HS.out with h | h | h | h
          · exact absurd h nb1
          · exact absurd h nb2
          · have h2 := trim_nil_iff.2 h
            rw [hcy.2] at h2
            rw [h2] at h0; simp at h0
          · exact h
        have hvlt := can_len_lt hcx hcy hlt
        have HV := Lib.hid hvlt
        clear hvlt
        go_enter Tryz.func152, Tryz.ntmps152
        go_wp2_with fail
        go_region_with (first | (go_at_call_of 147 (Value.slice A xs.length ca); refine (H1.out _ ha3).mono ?_; rintro e w1 ⟨rfl, rfl⟩) | (go_at_call_of 147 (Value.slice B ys.length cb); refine (H2.out _ hb3).mono ?_; rintro e w1 ⟨rfl, rfl⟩))
        all_goals
          go_wp2_with fail
          refine (HI.out xt.length (by omega) _ _ _).mono ?_; rintro e w' ⟨rfl, rfl⟩
          go_wp2_with fail
          refine (HI.out yt.length (by omega) _ _ _).mono ?_; rintro e w' ⟨rfl, rfl⟩
          go_wp2_with fail
          refine (trimUp_any A ca xt _ ((hta.alloc _).drew) hcx.1 (by omega) (by omega) (by omega)).mono ?_
          rintro e w2 ⟨r, rfl, hB, hcr, hvr, hrl, hb2⟩
          have HVR := Lib.hid hvr
          clear hvr
          go_wp2
          go_ret3
          have hvlt := HV.out
          refine ⟨_, _, _, rfl, ?_, .inr (.inr ⟨nb1, nb2, by omega, rfl, ?_, ?_⟩)⟩
          · exact ((Below.refl _ w).alloc (Nat.le_refl _) (.cells #[.slice B yt.length cb] 36)).drew.trans (hb2.mono (by simp))
          · rw [Nat.div_eq_of_lt hvlt]; exact numV_nil _
          · rw [Nat.mod_eq_of_lt hvlt, ← HVR.out]
            have hr := Rd.of_blk (w := w2) (pre := []) (xs := r) (post := []) (by simpa using hB)
            exact ⟨_, _, r, rfl, Nat.le_refl _, by omega, by simpa using hr, hcr, rfl⟩

end LM
end Go.Proofs.YtpaefbojilnnnaaGreatDoor

namespace Go.Proofs.YtpaefbojilnnnaaGreatDoor
open Go.RowKit
namespace LM

def sameB (xs ys : List Nat) : Bool := decide (xs = ys)

theorem take_succ_eq {xs ys : List Nat} {k : Nat} (h : xs.take k = ys.take k) (hx : k < xs.length) (hy : k < ys.length) (he : xs[k]?.getD 0 = ys[k]?.getD 0) : xs.take (k + 1) = ys.take (k + 1) := by
  rw [List.getElem?_eq_getElem hx, List.getElem?_eq_getElem hy] at he
  have e : xs[k] = ys[k] := he
  rw [List.take_succ_eq_append_getElem hx, List.take_succ_eq_append_getElem hy, h, e]

set_option maxRecDepth 100000 in
set_option maxHeartbeats 400000 in
theorem same_any (A B : Option Addr) (ca cb : Nat) (xs ys : List Nat) (w : World) (ha : Rd w A xs) (hb : Rd w B ys) (hl : xs.length ≤ 1000000) :
    Calls Tryz.prog 68 #[.slice A xs.length ca, .slice B ys.length cb] w fun e w' => e = .returned (.bool (sameB xs ys)) ∧ Below w.heap.size w w' := by
  by_cases hne : xs.length = ys.length
  · have HNE := Lib.hid hne
    have hbn : ((xs.length : Int) != (ys.length : Int)) = false := by simp [hne]
    clear hne
    go_enter Tryz.func68, Tryz.ntmps68
    go_wp2
    go_loopw [13] (fun i wr => ∃ k q : Nat, k ≤ xs.length ∧ i = .int .i64 (k : Int) ∧ Hid (xs.take k = ys.take k) ∧ wr = w.drewN q) (fun i _ => xs.length - (intOf i).toNat)
    case atStart => exact ⟨0, 0, Nat.zero_le _, rfl, Lib.hid rfl, rfl⟩
    case round =>
      obtain ⟨k, q, hk, rfl, HT, hwr⟩ := hrel
      have hra : Rd wr A xs := by rw [hwr]; exact ha.drewN q
      have hrb : Rd wr B ys := by rw [hwr]; exact hb.drewN q
      have HWR := Lib.hid hwr
      clear hwr
      by_cases hlt : k < xs.length
      · have hly : k < ys.length := by have := HNE.out; omega
        obtain ⟨b1, o1, rfl, _, c1⟩ := hra.at_ hlt
        obtain ⟨b2, o2, rfl, _, c2⟩ := hrb.at_ hly
        have hst := fun he => take_succ_eq HT.out hlt hly he
        have hfx : sameB xs ys = true → xs[k]?.getD 0 = ys[k]?.getD 0 := fun h => by rw [of_decide_eq_true h]
        generalize hxe : xs[k]?.getD 0 = x at *
        generalize hye : ys[k]?.getD 0 = y at *
        have HST := Lib.hid hst
        have HFX := Lib.hid hfx
        clear hst hfx hxe hye
        by_cases hxy : x = y
        · have hnb : ((x : Int) != (y : Int)) = false := by simp [hxy]
          have HT2 := Lib.hid (HST.out hxy)
          clear hxy
          go_wp2_with fail
          go_quiet (fail)
          go_wp2
          go_roundw
          case rel => exact ⟨k + 1, q + nq, by omega, by go_num, HT2, by rw [HWR.out, World.drewN_drewN]⟩
          case measure => simp [intOf]; omega
        · have hnb : ((x : Int) != (y : Int)) = true := by simp; omega
          have hf : sameB xs ys = false := by
            cases h : sameB xs ys with
            | false => rfl
            | true => exact absurd (HFX.out h) hxy
          have HF := Lib.hid hf
          clear hxy hf
          go_wp2_with fail
          go_quiet (fail)
          go_wp2
          go_ret
          exact ⟨by rw [HF.out]; rfl, by rw [HWR.out]; exact below_drewN (below_drewN (Below.refl _ _) _) _⟩
      · obtain rfl : k = xs.length := by omega
        have hf : sameB xs ys = true := by
          have h := HT.out
          rw [List.take_length, List.take_of_length_le (by have := HNE.out; omega)] at h
          exact decide_eq_true h
        have HF := Lib.hid hf
        clear hf
        go_wp2
        go_ret
        exact ⟨by rw [HF.out]; rfl, by rw [HWR.out]; exact below_drewN (Below.refl _ _) _⟩
  · have hbn : ((xs.length : Int) != (ys.length : Int)) = true := by simp; omega
    have hf : sameB xs ys = false := decide_eq_false (fun h => hne (by rw [h]))
    rw [hf]
    clear hf hne
    go_enter Tryz.func68, Tryz.ntmps68
    go_wp2
    go_ret
    exact ⟨rfl, Below.refl _ _⟩

end LM
end Go.Proofs.YtpaefbojilnnnaaGreatDoor

namespace Go.Proofs.YtpaefbojilnnnaaGreatDoor
open Go.RowKit
namespace LM

/-- a sign and a size -/
def sg (neg : Bool) (n : Nat) : Int := if neg = true then -(n : Int) else (n : Int)
theorem sg_abs (neg : Bool) (n : Nat) : (sg neg n).natAbs = n := by cases neg <;> simp [sg]
theorem sg_neg (neg : Bool) (n : Nat) : decide (sg neg n < 0) = (neg && decide (0 < n)) := by
  cases neg <;> simp [sg]
theorem sg_of (z : Int) : sg (decide (z < 0)) z.natAbs = z := by
  by_cases h : z < 0 <;> simp [sg, h] <;> omega
theorem sg_zero (neg : Bool) : sg neg 0 = 0 := by cases neg <;> rfl

/-- a struct that reads as this whole number -/
def IntV (w : World) (v : Value) (z : Int) : Prop := ∃ A c r, v = .agg #[.bool (decide (z < 0)), .slice A (List.length r) c] ∧ r.length ≤ c ∧ c ≤ 9223372036854775807 ∧ Rd w A r ∧ Can r ∧ val r = z.natAbs
/-- the same, whatever the room -/
def IntR (w : World) (v : Value) (z : Int) : Prop := ∃ A c r, v = .agg #[.bool (decide (z < 0)), .slice A (List.length r) c] ∧ Rd w A r ∧ Can r ∧ val r = z.natAbs
theorem IntV.toR {w : World} {v : Value} {z : Int} (h : IntV w v z) : IntR w v z := by
  obtain ⟨A, c, r, e, _, _, h3, h4, h5⟩ := h
  exact ⟨A, c, r, e, h3, h4, h5⟩
theorem IntV.keep {w w' : World} {v : Value} {z : Int} (h : IntV w v z) (hb : Below w.heap.size w w') : IntV w' v z := by
  obtain ⟨A, c, r, e, h1, h2, h3, h4, h5⟩ := h
  exact ⟨A, c, r, e, h1, h2, h3.below hb, h4, h5⟩
theorem IntR.keep {w w' : World} {v : Value} {z : Int} (h : IntR w v z) (hb : Below w.heap.size w w') : IntR w' v z := by
  obtain ⟨A, c, r, e, h3, h4, h5⟩ := h
  exact ⟨A, c, r, e, h3.below hb, h4, h5⟩
/-- as the walks write it out -/
theorem IntV.open {w : World} {v : Value} {z : Int} (h : IntV w v z) : ∃ A n c, v = .agg #[.bool (decide (z < 0)), .slice A n c] ∧ n ≤ c ∧ c ≤ 9223372036854775807 := by
  obtain ⟨A, c, r, e, h1, h2, _⟩ := h
  exact ⟨A, _, c, e, h1, h2⟩

theorem can_pos {r : List Nat} (h : Can r) : 0 < r.length ↔ 0 < val r := by
  rw [can_len h 0, Nat.pow_zero]
  exact Iff.rfl
theorem can_zero {r : List Nat} (h : Can r) : r.length = 0 ↔ val r = 0 := by
  have := can_pos h
  omega
/-- numbers of at most 64 limbs -/
theorem not_big_len {r : List Nat} (h : Can r) (hl : r.length ≤ 64) : ¬ BIG (val r) := fun hb => by
  have := (big_iff h).2 hb
  omega
theorem len_not_big {r : List Nat} (h : Can r) (hb : ¬ BIG (val r)) : r.length ≤ 64 := by
  rcases Nat.lt_or_ge 64 r.length with h1 | h1
  · exact absurd ((big_iff h).1 h1) hb
  · exact h1
def BigI (z : Int) : Prop := BIG z.natAbs
theorem bigI_sg (neg : Bool) (n : Nat) : BigI (sg neg n) ↔ BIG n := by unfold BigI; rw [sg_abs]
theorem not_big_zero : ¬ BIG 0 := by
  have h : 0 < 4294967296 ^ 64 := Nat.pow_pos (by decide)
  intro hb
  unfold BIG at hb
  omega
theorem numW_of {w : World} {v : Value} {n : Nat} (h : NumV w v n) : ∃ A c r, v = .slice A (List.length r) c ∧ r.length ≤ c ∧ c ≤ 9223372036854775807 ∧ Rd w A r ∧ Can r ∧ val r = n := by
  obtain ⟨A, c, r, e, h1, h2, h3, h4, h5⟩ := h
  exact ⟨A, c, r, e, h1, by omega, h3, h4, h5⟩

/-! ### Sums, products, quotients, by sign and size -/
theorem sg_add_same (s : Bool) (m n : Nat) : sg s m + sg s n = sg s (m + n) := by cases s <;> simp [sg] <;> omega
theorem sg_add_ge (s t : Bool) (m n : Nat) (h : s ≠ t) (hle : n ≤ m) : sg s m + sg t n = sg s (m - n) := by
  cases s <;> cases t <;> simp [sg] at * <;> omega
theorem sg_add_lt (s t : Bool) (m n : Nat) (h : s ≠ t) (hle : m ≤ n) : sg s m + sg t n = sg t (n - m) := by
  cases s <;> cases t <;> simp [sg] at * <;> omega
theorem sg_mul (s t : Bool) (m n : Nat) : sg s m * sg t n = sg (s != t) (m * n) := by
  cases s <;> cases t <;> simp [sg, Int.mul_neg, Int.neg_mul]
theorem sg_flip (s : Bool) (n : Nat) : -sg s n = sg (!s) n := by cases s <;> simp [sg]
theorem abs_mul_sg (x y : Int) : x * y = sg (decide (x < 0) != decide (y < 0)) (x.natAbs * y.natAbs) := by
  rw [← sg_mul, sg_of, sg_of]
/-- the quotient, rounded toward 0, and the rest with the first one's sign -/
def quoI (x y : Int) : Int := sg (decide (x < 0) != decide (y < 0)) (x.natAbs / y.natAbs)
def remI (x y : Int) : Int := sg (decide (x < 0)) (x.natAbs % y.natAbs)
def modI (x y : Int) : Int := if remI x y ≠ 0 ∧ (decide (remI x y < 0)) ≠ (decide (y < 0)) then remI x y + y else remI x y
theorem quo_rem (x y : Int) : quoI x y * y + remI x y = x := by
  have h1 : quoI x y * y = sg (decide (x < 0)) (x.natAbs / y.natAbs * y.natAbs) := by
    conv => lhs; rw [← sg_of y]
    unfold quoI
    rw [sg_mul, sg_of]
    congr 1
    cases decide (x < 0) <;> cases decide (y < 0) <;> rfl
  rw [h1]
  unfold remI
  rw [sg_add_same, Nat.div_add_mod', sg_of]
theorem rem_abs (x y : Int) : (remI x y).natAbs = x.natAbs % y.natAbs := sg_abs _ _
theorem rem_lt (x y : Int) (hy : y ≠ 0) : (remI x y).natAbs < y.natAbs := by rw [rem_abs]; exact Nat.mod_lt _ (by omega)
theorem mod_lt_abs (x y : Int) (hy : y ≠ 0) : (modI x y).natAbs < y.natAbs := by
  have h := rem_lt x y hy
  unfold modI
  generalize remI x y = r at *
  split
  · rename_i h1
    obtain ⟨h0, h2⟩ := h1
    by_cases a : r < 0 <;> by_cases b : y < 0 <;> simp [a, b] at h2 <;> omega
  · exact h
theorem mod_sign (x y : Int) (hy : y ≠ 0) (h0 : modI x y ≠ 0) : decide (modI x y < 0) = decide (y < 0) := by
  have h := rem_lt x y hy
  unfold modI at *
  generalize remI x y = r at *
  split at h0
  · rename_i h1
    rw [if_pos h1]
    obtain ⟨_, h2⟩ := h1
    by_cases a : r < 0 <;> by_cases b : y < 0 <;> simp [a, b] at h2 ⊢ <;> omega
  · rename_i h1
    rw [if_neg h1]
    by_cases h2 : decide (r < 0) = decide (y < 0)
    · exact h2
    · exact absurd ⟨h0, h2⟩ h1
theorem quo_not_big {x y : Int} (hx : ¬ BigI x) : ¬ BigI (quoI x y) := fun h => hx ((bigI_sg _ _).1 h |>.mono (Nat.div_le_self _ _))
theorem rem_not_big {x y : Int} (hx : ¬ BigI x) : ¬ BigI (remI x y) := fun h => hx ((bigI_sg _ _).1 h |>.mono (Nat.mod_le _ _))
/-- the order of whole numbers -/
def cmpI (x y : Int) : Int := if x < y then -1 else if y < x then 1 else 0
theorem cmpI_sg (s t : Bool) (m n : Nat) (hs : s = true → 0 < m) (ht : t = true → 0 < n) : cmpI (sg s m) (sg t n) = if s then (if t then cmpN n m else -1) else (if t then 1 else cmpN m n) := by
  cases s <;> cases t <;> simp [sg, cmpI, cmpN] at *
  · have h1 : ¬ (m : Int) < -(n : Int) := by omega
    have h2 : -(n : Int) < (m : Int) := by omega
    rw [if_neg h1, if_pos h2]
  · omega

instance : DecidablePred BigI := fun z => inferInstanceAs (Decidable (4294967296 ^ 64 ≤ z.natAbs))
/-- a power by squaring, from the lowest bit on: nothing where one on the way is too great -/
def powI (k : Nat) (p a : Int) : Option Int :=
  if BigI (if k % 2 = 1 then p * a else p) then none else
    if k / 2 = 0 then some (if k % 2 = 1 then p * a else p) else
      if BigI (a * a) then none else powI (k / 2) (if k % 2 = 1 then p * a else p) (a * a)
termination_by k
decreasing_by omega
theorem powI_odd_big {k : Nat} {p a : Int} (h : k % 2 = 1) (hb : BigI (p * a)) : powI k p a = none := by
  rw [powI, if_pos h, if_pos hb]
theorem powI_odd_end {k : Nat} {p a : Int} (h : k % 2 = 1) (h2 : k / 2 = 0) (hb : ¬ BigI (p * a)) : powI k p a = some (p * a) := by
  rw [powI, if_pos h, if_neg hb, if_pos h2]
theorem powI_odd_sq {k : Nat} {p a : Int} (h : k % 2 = 1) (h2 : ¬ k / 2 = 0) (hb : ¬ BigI (p * a)) (hs : BigI (a * a)) : powI k p a = none := by
  rw [powI, if_pos h, if_neg hb, if_neg h2, if_pos hs]
theorem powI_odd_go {k : Nat} {p a : Int} (h : k % 2 = 1) (h2 : ¬ k / 2 = 0) (hb : ¬ BigI (p * a)) (hs : ¬ BigI (a * a)) : powI k p a = powI (k / 2) (p * a) (a * a) := by
  rw [powI, if_pos h, if_neg hb, if_neg h2, if_neg hs]
theorem powI_even_end {k : Nat} {p a : Int} (h : ¬ k % 2 = 1) (h2 : k / 2 = 0) (hb : ¬ BigI p) : powI k p a = some p := by
  rw [powI, if_neg h, if_neg hb, if_pos h2]
theorem powI_even_sq {k : Nat} {p a : Int} (h : ¬ k % 2 = 1) (h2 : ¬ k / 2 = 0) (hb : ¬ BigI p) (hs : BigI (a * a)) : powI k p a = none := by
  rw [powI, if_neg h, if_neg hb, if_neg h2, if_pos hs]
theorem powI_even_go {k : Nat} {p a : Int} (h : ¬ k % 2 = 1) (h2 : ¬ k / 2 = 0) (hb : ¬ BigI p) (hs : ¬ BigI (a * a)) : powI k p a = powI (k / 2) p (a * a) := by
  rw [powI, if_neg h, if_neg hb, if_neg h2, if_neg hs]
theorem gcd_step (m n : Nat) : Nat.gcd m n = Nat.gcd n (m % n) := by
  rw [Nat.gcd_comm m n, Nat.gcd_rec n m, Nat.gcd_comm]

/-! ### A struct's block -/
/-- a struct lies in this block -/
def Bx (w : World) (g : Nat) (b : Bool) (A : Option Addr) (n c : Nat) : Prop := w.heap[g]? = some (.cells #[.bool b, .slice A n c] 38 (0, 0))
theorem Bx.lt {w : World} {g : Nat} {b : Bool} {A : Option Addr} {n c : Nat} (h : Bx w g b A n c) : g < w.heap.size := by
  rcases Nat.lt_or_ge g w.heap.size with hlt | hge
  · exact hlt
  · unfold Bx at h; rw [Array.getElem?_eq_none hge] at h; cases h
theorem Bx.facts {w : World} {g : Nat} {b : Bool} {A : Option Addr} {n c : Nat} (h : Bx w g b A n c) :
    w.cell? ⟨g, 0, none⟩ = some (.bool b) ∧ w.cell? ⟨g, 1, none⟩ = some (.slice A n c) ∧ w.frozen? ⟨g, 0, none⟩ = false ∧ w.frozen? ⟨g, 1, none⟩ = false ∧ g < w.heap.size := by
  have hl := h.lt
  unfold Bx at h
  exact ⟨by simp [World.cell?, h], by simp [World.cell?, h], by simp [World.frozen?, h], by simp [World.frozen?, h], hl⟩
theorem Bx.keep {w w' : World} {g B : Nat} {b : Bool} {A : Option Addr} {n c : Nat} (h : Bx w g b A n c) (hb : Below B w w') (hg : g < B) : Bx w' g b A n c := (hb.block _ hg).trans h
theorem Bx.below {w w' : World} {g : Nat} {b : Bool} {A : Option Addr} {n c : Nat} (h : Bx w g b A n c) (hb : Below w.heap.size w w') : Bx w' g b A n c := h.keep hb h.lt
theorem Bx.new (w : World) (b : Bool) (A : Option Addr) (n c : Nat) : Bx (w.alloc (.cells #[.bool b, .slice A n c] 38)) w.heap.size b A n c := by
  unfold Bx World.alloc
  simp
theorem Bx.alloc {w : World} {g : Nat} {b : Bool} {A : Option Addr} {n c : Nat} (h : Bx w g b A n c) (o : Obj) : Bx (w.alloc o) g b A n c := (Below.heap_alloc w o _ h.lt).trans h
theorem Bx.drew {w : World} {g : Nat} {b : Bool} {A : Option Addr} {n c : Nat} (h : Bx w g b A n c) : Bx w.drew g b A n c := h
theorem Bx.set {w : World} {g : Nat} {b : Bool} {A : Option Addr} {n c : Nat} (h : Bx w g b A n c) {p : Addr} (v : Value) (hp : g ≠ p.block) : Bx (w.setCell p v) g b A n c := (heap_setCell_other w p g v hp).trans h
theorem Bx.stored {w : World} {g : Nat} {b b' : Bool} {A A' : Option Addr} {n c n' c' : Nat} (h : Bx w g b A n c) : Bx ((w.setCell ⟨g, 0, none⟩ (.bool b')).setCell ⟨g, 1, none⟩ (.slice A' n' c')) g b' A' n' c' := by
  have h1 := heap_setCell_same w g 0 _ _ (.bool b') h
  have h2 := heap_setCell_same _ g 1 _ _ (.slice A' n' c') h1
  exact h2.trans rfl
/-- what reads as limbs lies in no struct's block -/
theorem Rd.offBx {w : World} {g : Nat} {b : Bool} {A A' : Option Addr} {n c : Nat} {xs : List Nat} (h : Rd w A' xs) (hb : Bx w g b A n c) (hx : 0 < xs.length) : Off A' g := by
  intro ad e e2
  obtain ⟨k, off, e3, hlt, hc⟩ := h hx
  rw [e3] at e
  injection e with e
  subst e
  obtain rfl : k = g := e2
  have h0 := hc 0 hx
  unfold Bx at hb
  simp only [World.cell?, hb] at h0
  have : off = 0 ∨ off = 1 ∨ 2 ≤ off := by omega
  rcases this with rfl | rfl | h2
  · simp at h0
  · simp at h0
  · rw [Array.getElem?_eq_none (by simp; omega)] at h0
    simp at h0
theorem Rd.stored {w : World} {g : Nat} {b : Bool} {A A' : Option Addr} {n c : Nat} {xs : List Nat} (h : Rd w A' xs) (hb : Bx w g b A n c) (u v : Value) : Rd ((w.setCell ⟨g, 0, none⟩ u).setCell ⟨g, 1, none⟩ v) A' xs := fun hx =>
  ((h.setCell (p := ⟨g, 0, none⟩) (h.offBx hb hx) u).setCell (p := ⟨g, 1, none⟩) (h.offBx hb hx) v) hx
theorem IntV.stored {w : World} {v : Value} {z : Int} (h : IntV w v z) {g : Nat} {b : Bool} {A : Option Addr} {n c : Nat} (hb : Bx w g b A n c) (u u' : Value) : IntV ((w.setCell ⟨g, 0, none⟩ u).setCell ⟨g, 1, none⟩ u') v z := by
  obtain ⟨A, c, r, e, h1, h2, h3, h4, h5⟩ := h
  exact ⟨A, c, r, e, h1, h2, h3.stored hb u u', h4, h5⟩
theorem IntR.stored {w : World} {v : Value} {z : Int} (h : IntR w v z) {g : Nat} {b : Bool} {A : Option Addr} {n c : Nat} (hb : Bx w g b A n c) (u u' : Value) : IntR ((w.setCell ⟨g, 0, none⟩ u).setCell ⟨g, 1, none⟩ u') v z := by
  obtain ⟨A, c, r, e, h3, h4, h5⟩ := h
  exact ⟨A, c, r, e, h3.stored hb u u', h4, h5⟩
theorem below_stored {w w2 : World} {B : Nat} (h : Below B w w2) {g : Nat} (hg : B ≤ g) (u u' : Value) : Below B w ((w2.setCell ⟨g, 0, none⟩ u).setCell ⟨g, 1, none⟩ u') := (h.setCell (p := ⟨g, 0, none⟩) hg u).setCell (p := ⟨g, 1, none⟩) hg u'
/-- the world behind a store into a struct's variable, under a name of its own -/
theorem stored_world {w w2 : World} {g B : Nat} {b : Bool} {A : Option Addr} {n c : Nat} (Y : Bx w2 g b A n c) (hb : Below B w w2) (hg : B ≤ g) (s : Bool) (A' : Option Addr) (n' c' : Nat) :
    ∃ W, (w2.setCell ⟨g, 0, none⟩ (.bool s)).setCell ⟨g, 1, none⟩ (.slice A' n' c') = W ∧ Bx W g s A' n' c' ∧ Below B w W ∧ (∀ v z, IntV w2 v z → IntV W v z) ∧ (∀ v z, IntR w2 v z → IntR W v z) ∧
      (∀ k b1 A1 n1 c1, k ≠ g → Bx w2 k b1 A1 n1 c1 → Bx W k b1 A1 n1 c1) ∧ (∀ A1 xs, Rd w2 A1 xs → Rd W A1 xs) :=
  ⟨_, rfl, Y.stored, below_stored hb hg _ _, fun _ _ h => h.stored Y _ _, fun _ _ h => h.stored Y _ _, fun _ _ _ _ _ hk h => (h.set (p := ⟨g, 0, none⟩) _ hk).set (p := ⟨g, 1, none⟩) _ hk, fun _ _ h => h.stored Y _ _⟩
/-- where a call stands that has laid one struct that came in, and its result's variable -/
theorem new2 (w : World) (s : Bool) (A : Option Addr) (n c : Nat) :
    Below w.heap.size w ((w.alloc (.cells #[.bool s, .slice A n c] 38)).alloc (.cells #[.bool false, .slice none 0 0] 38)) ∧
    Bx ((w.alloc (.cells #[.bool s, .slice A n c] 38)).alloc (.cells #[.bool false, .slice none 0 0] 38)) w.heap.size s A n c ∧
    Bx ((w.alloc (.cells #[.bool s, .slice A n c] 38)).alloc (.cells #[.bool false, .slice none 0 0] 38)) (w.heap.size + 1) false none 0 0 := by
  refine ⟨((Below.refl _ w).alloc (Nat.le_refl _) _).alloc (by simp) _, (Bx.new w s A n c).alloc _, ?_⟩
  have h := Bx.new (w.alloc (.cells #[.bool s, .slice A n c] 38)) false none 0 0
  rw [World.size_alloc] at h
  exact h
/-- the same at two structs -/
theorem new3 (w : World) (s t : Bool) (A B : Option Addr) (n c m d : Nat) :
    Below w.heap.size w (((w.alloc (.cells #[.bool s, .slice A n c] 38)).alloc (.cells #[.bool t, .slice B m d] 38)).alloc (.cells #[.bool false, .slice none 0 0] 38)) ∧
    Bx (((w.alloc (.cells #[.bool s, .slice A n c] 38)).alloc (.cells #[.bool t, .slice B m d] 38)).alloc (.cells #[.bool false, .slice none 0 0] 38)) w.heap.size s A n c ∧
    Bx (((w.alloc (.cells #[.bool s, .slice A n c] 38)).alloc (.cells #[.bool t, .slice B m d] 38)).alloc (.cells #[.bool false, .slice none 0 0] 38)) (w.heap.size + 1) t B m d ∧
    Bx (((w.alloc (.cells #[.bool s, .slice A n c] 38)).alloc (.cells #[.bool t, .slice B m d] 38)).alloc (.cells #[.bool false, .slice none 0 0] 38)) (w.heap.size + 1 + 1) false none 0 0 := by
  obtain ⟨h1, h2, -⟩ := new2 w s A n c
  refine ⟨(((Below.refl _ w).alloc (Nat.le_refl _) _).alloc (by simp) _).alloc (by simp; omega) _, ((Bx.new w s A n c).alloc _).alloc _, ?_, ?_⟩
  · have h := Bx.new (w.alloc (.cells #[.bool s, .slice A n c] 38)) t B m d
    rw [World.size_alloc] at h
    exact h.alloc _
  · have h := Bx.new ((w.alloc (.cells #[.bool s, .slice A n c] 38)).alloc (.cells #[.bool t, .slice B m d] 38)) false none 0 0
    rw [World.size_alloc, World.size_alloc] at h
    exact h
/-- the same with two results -/
theorem new4 (w : World) (s t : Bool) (A B : Option Addr) (n c m d : Nat) :
    Below w.heap.size w ((((w.alloc (.cells #[.bool s, .slice A n c] 38)).alloc (.cells #[.bool t, .slice B m d] 38)).alloc (.cells #[.bool false, .slice none 0 0] 38)).alloc (.cells #[.bool false, .slice none 0 0] 38)) ∧
    Bx ((((w.alloc (.cells #[.bool s, .slice A n c] 38)).alloc (.cells #[.bool t, .slice B m d] 38)).alloc (.cells #[.bool false, .slice none 0 0] 38)).alloc (.cells #[.bool false, .slice none 0 0] 38)) w.heap.size s A n c ∧
    Bx ((((w.alloc (.cells #[.bool s, .slice A n c] 38)).alloc (.cells #[.bool t, .slice B m d] 38)).alloc (.cells #[.bool false, .slice none 0 0] 38)).alloc (.cells #[.bool false, .slice none 0 0] 38)) (w.heap.size + 1) t B m d ∧
    Bx ((((w.alloc (.cells #[.bool s, .slice A n c] 38)).alloc (.cells #[.bool t, .slice B m d] 38)).alloc (.cells #[.bool false, .slice none 0 0] 38)).alloc (.cells #[.bool false, .slice none 0 0] 38)) (w.heap.size + 1 + 1) false none 0 0 ∧
    Bx ((((w.alloc (.cells #[.bool s, .slice A n c] 38)).alloc (.cells #[.bool t, .slice B m d] 38)).alloc (.cells #[.bool false, .slice none 0 0] 38)).alloc (.cells #[.bool false, .slice none 0 0] 38)) (w.heap.size + 1 + 1 + 1) false none 0 0 := by
  obtain ⟨h1, h2, h3, h4⟩ := new3 w s t A B n c m d
  refine ⟨h1.alloc h1.size _, h2.alloc _, h3.alloc _, h4.alloc _, ?_⟩
  have h := Bx.new (((w.alloc (.cells #[.bool s, .slice A n c] 38)).alloc (.cells #[.bool t, .slice B m d] 38)).alloc (.cells #[.bool false, .slice none 0 0] 38)) false none 0 0
  rw [World.size_alloc, World.size_alloc, World.size_alloc] at h
  exact h
theorem Bx.c0 {w : World} {g : Nat} {b : Bool} {A : Option Addr} {n c : Nat} (h : Bx w g b A n c) : w.cell? ⟨g, 0, none⟩ = some (.bool b) := h.facts.1
theorem Bx.c1 {w : World} {g : Nat} {b : Bool} {A : Option Addr} {n c : Nat} (h : Bx w g b A n c) : w.cell? ⟨g, 1, none⟩ = some (.slice A n c) := h.facts.2.1

end LM
end Go.Proofs.YtpaefbojilnnnaaGreatDoor

namespace Go.Proofs.YtpaefbojilnnnaaGreatDoor
open Go.RowKit
namespace LM

set_option maxHeartbeats 400000 in
theorem of_any (n : Nat) (w : World) (hn : n < 18446744073709551616) :
    Calls Tryz.prog 138 #[.int .u64 (n : Int)] w fun e w' => (∃ v, e = .returned v ∧ NumV w' v n) ∧ Below w.heap.size w w' := by
  have e1 : (n : Int) % 4294967296 = ((n % 4294967296 : Nat) : Int) := by simp
  have e2 : (n : Int) / 4294967296 = ((n / 4294967296 : Nat) : Int) := by simp
  have l1 : n % 4294967296 < 4294967296 := Nat.mod_lt _ (by decide)
  have l2 : n / 4294967296 < 4294967296 := by omega
  have hv : val [n % 4294967296, n / 4294967296] = n := by simp [val]; omega
  generalize n % 4294967296 = lo at *
  generalize n / 4294967296 = hi at *
  have HV := Lib.hid hv
  clear hv
  go_enter Tryz.func138, Tryz.ntmps138
  go_wp2_with fail
  refine (trimmed_num (N := 2) (us := [lo, hi]) (by simpa [U] using Blk.new w (U [lo, hi])) rfl (Lm.cons l1 (Lm.cons l2 Lm.nil)) (by decide)).mono ?_
  rintro e w1 ⟨⟨v, rfl, hnv⟩, rfl⟩
  rw [HV.out] at hnv
  have HN := Lib.hid hnv
  clear hnv
  go_wp2
  go_ret
  exact ⟨⟨v, rfl, HN.out⟩, (Below.refl _ _).alloc (Nat.le_refl _) _⟩

set_option maxHeartbeats 400000 in
theorem small_any (A : Option Addr) (ca : Nat) (xs : List Nat) (w : World) (ha : Rd w A xs) (hx : Lm xs) (hca : xs.length ≤ ca) (hcam : ca ≤ 9223372036854775807) :
    Calls Tryz.prog 145 #[.slice A xs.length ca] w fun e w' =>
      ((val xs < 18446744073709551616 ∧ e = .returned (.tuple #[.int .u64 ((val xs : Nat) : Int), .bool true])) ∨ (18446744073709551616 ≤ val xs ∧ e = .returned (.tuple #[.int .u64 0, .bool false]))) ∧ w = w' := by
  have H1 := Lib.hid (trimmed_any A ca xs w ha hca (by unfold maxLen; omega))
  have hta := ha.trim
  have hcx := can_trim hx
  rw [← val_trim xs]
  have hlx := trim_length_le xs
  generalize trim xs = xt at *
  clear ha
  by_cases h2 : 2 < xt.length
  · have hb := (can_len hcx 2).1 h2
    have HB : Hid (18446744073709551616 ≤ val xt) := Lib.hid hb
    clear hb
    go_enter Tryz.func145, Tryz.ntmps145
    go_wp2_with fail
    refine H1.out.mono ?_; rintro e w' ⟨rfl, rfl⟩
    go_wp2
    go_ret2
    exact ⟨.inr ⟨HB.out, rfl⟩, rfl⟩
  · have hb : val xt < 18446744073709551616 := val_len_lt hcx.1 (n := 2) (by omega)
    have l0 := hcx.1.get 0
    have l1 := hcx.1.get 1
    have hv : val xt = xt[1]?.getD 0 * 4294967296 + xt[0]?.getD 0 := by
      have e1 := val_take_succ xt 0
      have e2 := val_take_succ xt 1
      rw [List.take_of_length_le (by omega)] at e2
      rw [e2, e1]; simp [val]; omega
    have hoh := or_high l1 l0
    have k1 := fun W h => at_nat A ca xt 1 (xt[1]?.getD 0) W h (by omega) rfl
    have k0 := fun W h => at_nat A ca xt 0 (xt[0]?.getD 0) W h (by omega) rfl
    rw [hv] at hb ⊢
    generalize xt[1]?.getD 0 = y1 at *
    generalize xt[0]?.getD 0 = y0 at *
    have K1 := Lib.hid k1
    have K0 := Lib.hid k0
    have HB := Lib.hid hb
    clear hv k1 k0 hb
    go_enter Tryz.func145, Tryz.ntmps145
    go_wp2_with fail
    refine H1.out.mono ?_; rintro e w' ⟨rfl, rfl⟩
    go_wp2_with fail
    refine (K1.out _ hta).mono ?_; rintro e w' ⟨rfl, rfl⟩
    go_wp2_with fail
    refine (K0.out _ hta).mono ?_; rintro e w' ⟨rfl, rfl⟩
    go_wp2
    go_ret2
    exact ⟨.inl ⟨HB.out, rfl⟩, rfl⟩

end LM
end Go.Proofs.YtpaefbojilnnnaaGreatDoor
