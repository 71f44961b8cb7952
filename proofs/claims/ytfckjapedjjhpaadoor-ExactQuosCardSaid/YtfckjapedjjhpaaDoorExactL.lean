/- What the walks of layer 2's statements share: blocks and numbers by the list. -/
import Derived.Test.YtfckjapedjjhpaaDoorExactT
namespace Go.Proofs.YtfckjapedjjhpaaDoor
open Go.RowKit
namespace LM
set_option linter.unusedVariables false

/-- structs that lie in these blocks -/
def Bxs (w : World) (L : List (Nat × Bool × Option Addr × Nat × Nat)) : Prop := ∀ p ∈ L, Bx w p.1 p.2.1 p.2.2.1 p.2.2.2.1 p.2.2.2.2
/-- values that read as these whole numbers -/
def Rs (w : World) (L : List (Value × Int)) : Prop := ∀ p ∈ L, IntR w p.1 p.2
section
variable {w w' : World} {L : List (Nat × Bool × Option Addr × Nat × Nat)} {M : List (Value × Int)}
theorem Bxs.nil : Bxs w [] := fun p h => by cases h
theorem Bxs.cons {g : Nat} {b : Bool} {A : Option Addr} {n c : Nat} (h : Bx w g b A n c) (hs : Bxs w L) : Bxs w ((g, b, A, n, c) :: L) := fun p hp => by
  rcases List.mem_cons.1 hp with rfl | hp
  · exact h
  · exact hs p hp
theorem Bxs.below (h : Bxs w L) (hb : Below w.heap.size w w') : Bxs w' L := fun p hp => (h p hp).below hb
theorem Bxs.alloc (h : Bxs w L) (o : Obj) : Bxs (w.alloc o) L := fun p hp => (h p hp).alloc o
theorem Bxs.drew (h : Bxs w L) : Bxs w.drew L := h
theorem Bxs.new (h : Bxs w L) (b : Bool) (A : Option Addr) (n c : Nat) : Bxs (w.alloc (.cells #[.bool b, .slice A n c] 24)) ((w.heap.size, b, A, n, c) :: L) := (h.alloc _).cons (Bx.new w b A n c)
theorem Bxs.hd {g : Nat} {b : Bool} {A : Option Addr} {n c : Nat} (h : Bxs w ((g, b, A, n, c) :: L)) : Bx w g b A n c := h _ (List.mem_cons_self ..)
theorem Bxs.tl {p : Nat × Bool × Option Addr × Nat × Nat} (h : Bxs w (p :: L)) : Bxs w L := fun q hq => h q (List.mem_cons_of_mem _ hq)
theorem Rs.nil : Rs w [] := fun p h => by cases h
theorem Rs.cons {v : Value} {z : Int} (h : IntR w v z) (hs : Rs w M) : Rs w ((v, z) :: M) := fun p hp => by
  rcases List.mem_cons.1 hp with rfl | hp
  · exact h
  · exact hs p hp
theorem Rs.keep (h : Rs w M) (hb : Below w.heap.size w w') : Rs w' M := fun p hp => (h p hp).keep hb
theorem Rs.alloc (h : Rs w M) (o : Obj) : Rs (w.alloc o) M := fun p hp => (h p hp).alloc o
theorem Rs.drew (h : Rs w M) : Rs w.drew M := h.keep (Below.refl _ _).drew
theorem Rs.hd {v : Value} {z : Int} (h : Rs w ((v, z) :: M)) : IntR w v z := h _ (List.mem_cons_self ..)
theorem Rs.tl {p : Value × Int} (h : Rs w (p :: M)) : Rs w M := fun q hq => h q (List.mem_cons_of_mem _ hq)
end
/-- the outcome of a reckoning that may be too great, by one number -/
def Out (z zr er : Int) : Prop := (BigI z ∧ er = 11 ∧ zr = 0) ∨ (¬ BigI z ∧ er = 0 ∧ zr = z)
theorem Out.same {z a b e f : Int} (h : Out z a e) (k : Out z b f) : a = b ∧ e = f := by
  rcases h with ⟨h1, rfl, rfl⟩ | ⟨h1, rfl, rfl⟩ <;> rcases k with ⟨k1, rfl, rfl⟩ | ⟨k1, rfl, rfl⟩
  · exact ⟨rfl, rfl⟩
  · exact absurd h1 k1
  · exact absurd k1 h1
  · exact ⟨rfl, rfl⟩
theorem bigI_zero : ¬ BigI 0 := not_big_zero
theorem Out.fit {z a e : Int} (h : Out z a e) : ¬ BigI a := by
  rcases h with ⟨_, _, rfl⟩ | ⟨h1, _, rfl⟩
  · exact bigI_zero
  · exact h1
theorem RetE.out {w w' : World} {z : Int} {e : Ending} (h : RetE w z e w') : ∃ s A n c er zr, e = .returned (.tuple #[.agg #[.bool s, .slice A n c], .int .i64 er]) ∧ IntV w' (.agg #[.bool s, .slice A n c]) zr ∧ Out z zr er ∧ Below w.heap.size w w' := by
  obtain ⟨s, A, n, c, er, rfl, ⟨h1, h2, h3⟩ | ⟨h1, h2, h3⟩, hb⟩ := h
  · exact ⟨s, A, n, c, er, 0, rfl, h3, .inl ⟨h1, h2, rfl⟩, hb⟩
  · exact ⟨s, A, n, c, er, z, rfl, h3, .inr ⟨h1, h2, rfl⟩, hb⟩
theorem RetC.out {w w' : World} {z : Int} {e : Ending} (h : RetC w z e w') : ∃ s A n c er zr, e = .returned (.tuple #[.agg #[.bool s, .slice A n c], .int .i64 er]) ∧ IntR w' (.agg #[.bool s, .slice A n c]) zr ∧ Out z zr er ∧ Below w.heap.size w w' := by
  obtain ⟨s, A, n, c, er, rfl, ⟨h1, h2, h3⟩ | ⟨h1, h2, h3⟩, hb⟩ := h
  · exact ⟨s, A, n, c, er, 0, rfl, h3, .inl ⟨h1, h2, rfl⟩, hb⟩
  · exact ⟨s, A, n, c, er, z, rfl, h3, .inr ⟨h1, h2, rfl⟩, hb⟩
/-- the document's Same of the same number -/
theorem rsame2_yes {va vb : Value} {x : Int} {w : World} (ha : IntR w va x) (hb : IntR w vb x) (hx : ¬ BigI x) : Calls Tryd.prog 27 #[va, vb] w fun e w' => e = .returned (.bool true) ∧ Below w.heap.size w w' := by
  have h := rsame2_int ha hb (fit_of hx)
  rw [decide_eq_true (rfl : x = x)] at h
  exact h

end LM
end Go.Proofs.YtfckjapedjjhpaaDoor
