/- Whole numbers with a sign: the mathematics, and how they lie in memory. -/
import Derived.Test.YtpoojlnndgoeoaaGreatDoorLimbM
import Derived.Test.YtpoojlnndgoeoaaGreatDoorLimbR
import Derived.Laws.Rows
namespace Go.Proofs.YtpoojlnndgoeoaaGreatDoor
open Go.RowKit
namespace LM

/-- a sign and a size -/
def sg (neg : Bool) (n : Nat) : Int := if neg = true then -(n : Int) else (n : Int)
theorem sg_abs (neg : Bool) (n : Nat) : (sg neg n).natAbs = n := by cases neg <;> simp [sg]
theorem sg_neg (neg : Bool) (n : Nat) : decide (sg neg n < 0) = (neg && decide (0 < n)) := by
  cases neg <;> simp [sg]
theorem sg_of (z : Int) : sg (decide (z < 0)) z.natAbs = z := by
  by_cases h : z < 0 <;> simp [sg, h] <;> omega
theorem sg_zero (neg : Bool) : sg neg 0 = 0 := by cases neg <;> rfl

/-- a struct that reads as this whole number -/
def IntV (w : World) (v : Value) (z : Int) : Prop := ∃ A c r, v = .agg #[.bool (decide (z < 0)), .slice A (List.length r) c] ∧ r.length ≤ c ∧ c ≤ 9223372036854775807 ∧ Rd w A r ∧ Can r ∧ val r = z.natAbs
/-- the same, whatever the room -/
def IntR (w : World) (v : Value) (z : Int) : Prop := ∃ A c r, v = .agg #[.bool (decide (z < 0)), .slice A (List.length r) c] ∧ Rd w A r ∧ Can r ∧ val r = z.natAbs
theorem IntV.toR {w : World} {v : Value} {z : Int} (h : IntV w v z) : IntR w v z := by
  obtain ⟨A, c, r, e, _, _, h3, h4, h5⟩ := h
  exact ⟨A, c, r, e, h3, h4, h5⟩
theorem IntV.keep {w w' : World} {v : Value} {z : Int} (h : IntV w v z) (hb : Below w.heap.size w w') : IntV w' v z := by
  obtain ⟨A, c, r, e, h1, h2, h3, h4, h5⟩ := h
  exact ⟨A, c, r, e, h1, h2, h3.below hb, h4, h5⟩
theorem IntR.keep {w w' : World} {v : Value} {z : Int} (h : IntR w v z) (hb : Below w.heap.size w w') : IntR w' v z := by
  obtain ⟨A, c, r, e, h3, h4, h5⟩ := h
  exact ⟨A, c, r, e, h3.below hb, h4, h5⟩
/-- as the walks write it out -/
theorem IntV.open {w : World} {v : Value} {z : Int} (h : IntV w v z) : ∃ A n c, v = .agg #[.bool (decide (z < 0)), .slice A n c] ∧ n ≤ c ∧ c ≤ 9223372036854775807 := by
  obtain ⟨A, c, r, e, h1, h2, _⟩ := h
  exact ⟨A, _, c, e, h1, h2⟩

theorem can_pos {r : List Nat} (h : Can r) : 0 < r.length ↔ 0 < val r := by
  rw [can_len h 0, Nat.pow_zero]
  exact Iff.rfl
theorem can_zero {r : List Nat} (h : Can r) : r.length = 0 ↔ val r = 0 := by
  have := can_pos h
  omega
/-- numbers of at most 64 limbs -/
theorem not_big_len {r : List Nat} (h : Can r) (hl : r.length ≤ 64) : ¬ BIG (val r) := fun hb => by
  have := (big_iff h).2 hb
  omega
theorem len_not_big {r : List Nat} (h : Can r) (hb : ¬ BIG (val r)) : r.length ≤ 64 := by
  rcases Nat.lt_or_ge 64 r.length with h1 | h1
  · exact absurd ((big_iff h).1 h1) hb
  · exact h1
def BigI (z : Int) : Prop := BIG z.natAbs
theorem bigI_sg (neg : Bool) (n : Nat) : BigI (sg neg n) ↔ BIG n := by unfold BigI; rw [sg_abs]
theorem not_big_zero : ¬ BIG 0 := by
  have h : 0 < 4294967296 ^ 64 := Nat.pow_pos (by decide)
  intro hb
  unfold BIG at hb
  omega
theorem numW_of {w : World} {v : Value} {n : Nat} (h : NumV w v n) : ∃ A c r, v = .slice A (List.length r) c ∧ r.length ≤ c ∧ c ≤ 9223372036854775807 ∧ Rd w A r ∧ Can r ∧ val r = n := by
  obtain ⟨A, c, r, e, h1, h2, h3, h4, h5⟩ := h
  exact ⟨A, c, r, e, h1, by omega, h3, h4, h5⟩

/-! ### Sums, products, quotients, by sign and size -/
theorem sg_add_same (s : Bool) (m n : Nat) : sg s m + sg s n = sg s (m + n) := by cases s <;> simp [sg] <;> omega
theorem sg_add_ge (s t : Bool) (m n : Nat) (h : s ≠ t) (hle : n ≤ m) : sg s m + sg t n = sg s (m - n) := by
  cases s <;> cases t <;> simp [sg] at * <;> omega
theorem sg_add_lt (s t : Bool) (m n : Nat) (h : s ≠ t) (hle : m ≤ n) : sg s m + sg t n = sg t (n - m) := by
  cases s <;> cases t <;> simp [sg] at * <;> omega
theorem sg_mul (s t : Bool) (m n : Nat) : sg s m * sg t n = sg (s != t) (m * n) := by
  cases s <;> cases t <;> simp [sg, Int.mul_neg, Int.neg_mul]
theorem sg_flip (s : Bool) (n : Nat) : -sg s n = sg (!s) n := by cases s <;> simp [sg]
theorem abs_mul_sg (x y : Int) : x * y = sg (decide (x < 0) != decide (y < 0)) (x.natAbs * y.natAbs) := by
  rw [← sg_mul, sg_of, sg_of]
/-- the quotient, rounded toward 0, and the rest with the first one's sign -/
def quoI (x y : Int) : Int := sg (decide (x < 0) != decide (y < 0)) (x.natAbs / y.natAbs)
def remI (x y : Int) : Int := sg (decide (x < 0)) (x.natAbs % y.natAbs)
def modI (x y : Int) : Int := if remI x y ≠ 0 ∧ (decide (remI x y < 0)) ≠ (decide (y < 0)) then remI x y + y else remI x y
theorem quo_rem (x y : Int) : quoI x y * y + remI x y = x := by
  have h1 : quoI x y * y = sg (decide (x < 0)) (x.natAbs / y.natAbs * y.natAbs) := by
    conv => lhs; rw [← sg_of y]
    unfold quoI
    rw [sg_mul, sg_of]
    congr 1
    cases decide (x < 0) <;> cases decide (y < 0) <;> rfl
  rw [h1]
  unfold remI
  rw [sg_add_same, Nat.div_add_mod', sg_of]
theorem rem_abs (x y : Int) : (remI x y).natAbs = x.natAbs % y.natAbs := sg_abs _ _
theorem rem_lt (x y : Int) (hy : y ≠ 0) : (remI x y).natAbs < y.natAbs := by rw [rem_abs]; exact Nat.mod_lt _ (by omega)
theorem mod_lt_abs (x y : Int) (hy : y ≠ 0) : (modI x y).natAbs < y.natAbs := by
  have h := rem_lt x y hy
  unfold modI
  generalize remI x y = r at *
  split
  · rename_i h1
    obtain ⟨h0, h2⟩ := h1
    by_cases a : r < 0 <;> by_cases b : y < 0 <;> simp [a, b] at h2 <;> omega
  · exact h
theorem mod_sign (x y : Int) (hy : y ≠ 0) (h0 : modI x y ≠ 0) : decide (modI x y < 0) = decide (y < 0) := by
  have h := rem_lt x y hy
  unfold modI at *
  generalize remI x y = r at *
  split at h0
  · rename_i h1
    rw [if_pos h1]
    obtain ⟨_, h2⟩ := h1
    by_cases a : r < 0 <;> by_cases b : y < 0 <;> simp [a, b] at h2 ⊢ <;> omega
  · rename_i h1
    rw [if_neg h1]
    by_cases h2 : decide (r < 0) = decide (y < 0)
    · exact h2
    · exact absurd ⟨h0, h2⟩ h1
theorem quo_not_big {x y : Int} (hx : ¬ BigI x) : ¬ BigI (quoI x y) := fun h => hx ((bigI_sg _ _).1 h |>.mono (Nat.div_le_self _ _))
theorem rem_not_big {x y : Int} (hx : ¬ BigI x) : ¬ BigI (remI x y) := fun h => hx ((bigI_sg _ _).1 h |>.mono (Nat.mod_le _ _))
/-- the order of whole numbers -/
def cmpI (x y : Int) : Int := if x < y then -1 else if y < x then 1 else 0
theorem cmpI_sg (s t : Bool) (m n : Nat) (hs : s = true → 0 < m) (ht : t = true → 0 < n) : cmpI (sg s m) (sg t n) = if s then (if t then cmpN n m else -1) else (if t then 1 else cmpN m n) := by
  cases s <;> cases t <;> simp [sg, cmpI, cmpN] at *
  · have h1 : ¬ (m : Int) < -(n : Int) := by omega
    have h2 : -(n : Int) < (m : Int) := by omega
    rw [if_neg h1, if_pos h2]
  · omega

instance : DecidablePred BigI := fun z => inferInstanceAs (Decidable (4294967296 ^ 64 ≤ z.natAbs))
/-- a power by squaring, from the lowest bit on: nothing where one on the way is too great -/
def powI (k : Nat) (p a : Int) : Option Int :=
  if BigI (if k % 2 = 1 then p * a else p) then none else
    if k / 2 = 0 then some (if k % 2 = 1 then p * a else p) else
      if BigI (a * a) then none else powI (k / 2) (if k % 2 = 1 then p * a else p) (a * a)
termination_by k
decreasing_by omega
theorem powI_odd_big {k : Nat} {p a : Int} (h : k % 2 = 1) (hb : BigI (p * a)) : powI k p a = none := by
  rw [powI, if_pos h, if_pos hb]
theorem powI_odd_end {k : Nat} {p a : Int} (h : k % 2 = 1) (h2 : k / 2 = 0) (hb : ¬ BigI (p * a)) : powI k p a = some (p * a) := by
  rw [powI, if_pos h, if_neg hb, if_pos h2]
theorem powI_odd_sq {k : Nat} {p a : Int} (h : k % 2 = 1) (h2 : ¬ k / 2 = 0) (hb : ¬ BigI (p * a)) (hs : BigI (a * a)) : powI k p a = none := by
  rw [powI, if_pos h, if_neg hb, if_neg h2, if_pos hs]
theorem powI_odd_go {k : Nat} {p a : Int} (h : k % 2 = 1) (h2 : ¬ k / 2 = 0) (hb : ¬ BigI (p * a)) (hs : ¬ BigI (a * a)) : powI k p a = powI (k / 2) (p * a) (a * a) := by
  rw [powI, if_pos h, if_neg hb, if_neg h2, if_neg hs]
theorem powI_even_end {k : Nat} {p a : Int} (h : ¬ k % 2 = 1) (h2 : k / 2 = 0) (hb : ¬ BigI p) : powI k p a = some p := by
  rw [powI, if_neg h, if_neg hb, if_pos h2]
theorem powI_even_sq {k : Nat} {p a : Int} (h : ¬ k % 2 = 1) (h2 : ¬ k / 2 = 0) (hb : ¬ BigI p) (hs : BigI (a * a)) : powI k p a = none := by
  rw [powI, if_neg h, if_neg hb, if_neg h2, if_pos hs]
theorem powI_even_go {k : Nat} {p a : Int} (h : ¬ k % 2 = 1) (h2 : ¬ k / 2 = 0) (hb : ¬ BigI p) (hs : ¬ BigI (a * a)) : powI k p a = powI (k / 2) p (a * a) := by
  rw [powI, if_neg h, if_neg hb, if_neg h2, if_neg hs]
theorem gcd_step (m n : Nat) : Nat.gcd m n = Nat.gcd n (m % n) := by
  rw [Nat.gcd_comm m n, Nat.gcd_rec n m, Nat.gcd_comm]

/-! ### A struct's block -/
/-- a struct lies in this block -/
def Bx (w : World) (g : Nat) (b : Bool) (A : Option Addr) (n c : Nat) : Prop := w.heap[g]? = some (.cells #[.bool b, .slice A n c] 41 (0, 0))
theorem Bx.lt {w : World} {g : Nat} {b : Bool} {A : Option Addr} {n c : Nat} (h : Bx w g b A n c) : g < w.heap.size := by
  rcases Nat.lt_or_ge g w.heap.size with hlt | hge
  · exact hlt
  · unfold Bx at h; rw [Array.getElem?_eq_none hge] at h; cases h
theorem Bx.facts {w : World} {g : Nat} {b : Bool} {A : Option Addr} {n c : Nat} (h : Bx w g b A n c) :
    w.cell? ⟨g, 0, none⟩ = some (.bool b) ∧ w.cell? ⟨g, 1, none⟩ = some (.slice A n c) ∧ w.frozen? ⟨g, 0, none⟩ = false ∧ w.frozen? ⟨g, 1, none⟩ = false ∧ g < w.heap.size := by
  have hl := h.lt
  unfold Bx at h
  exact ⟨by simp [World.cell?, h], by simp [World.cell?, h], by simp [World.frozen?, h], by simp [World.frozen?, h], hl⟩
theorem Bx.keep {w w' : World} {g B : Nat} {b : Bool} {A : Option Addr} {n c : Nat} (h : Bx w g b A n c) (hb : Below B w w') (hg : g < B) : Bx w' g b A n c := (hb.block _ hg).trans h
theorem Bx.below {w w' : World} {g : Nat} {b : Bool} {A : Option Addr} {n c : Nat} (h : Bx w g b A n c) (hb : Below w.heap.size w w') : Bx w' g b A n c := h.keep hb h.lt
theorem Bx.new (w : World) (b : Bool) (A : Option Addr) (n c : Nat) : Bx (w.alloc (.cells #[.bool b, .slice A n c] 41)) w.heap.size b A n c := by
  unfold Bx World.alloc
  simp
theorem Bx.alloc {w : World} {g : Nat} {b : Bool} {A : Option Addr} {n c : Nat} (h : Bx w g b A n c) (o : Obj) : Bx (w.alloc o) g b A n c := (Below.heap_alloc w o _ h.lt).trans h
theorem Bx.drew {w : World} {g : Nat} {b : Bool} {A : Option Addr} {n c : Nat} (h : Bx w g b A n c) : Bx w.drew g b A n c := h
theorem Bx.set {w : World} {g : Nat} {b : Bool} {A : Option Addr} {n c : Nat} (h : Bx w g b A n c) {p : Addr} (v : Value) (hp : g ≠ p.block) : Bx (w.setCell p v) g b A n c := (heap_setCell_other w p g v hp).trans h
theorem Bx.stored {w : World} {g : Nat} {b b' : Bool} {A A' : Option Addr} {n c n' c' : Nat} (h : Bx w g b A n c) : Bx ((w.setCell ⟨g, 0, none⟩ (.bool b')).setCell ⟨g, 1, none⟩ (.slice A' n' c')) g b' A' n' c' := by
  have h1 := heap_setCell_same w g 0 _ _ (.bool b') h
  have h2 := heap_setCell_same _ g 1 _ _ (.slice A' n' c') h1
  exact h2.trans rfl
/-- what reads as limbs lies in no struct's block -/
theorem Rd.offBx {w : World} {g : Nat} {b : Bool} {A A' : Option Addr} {n c : Nat} {xs : List Nat} (h : Rd w A' xs) (hb : Bx w g b A n c) (hx : 0 < xs.length) : Off A' g := by
  intro ad e e2
  obtain ⟨k, off, e3, hlt, hc⟩ := h hx
  rw [e3] at e
  injection e with e
  subst e
  obtain rfl : k = g := e2
  have h0 := hc 0 hx
  unfold Bx at hb
  simp only [World.cell?, hb] at h0
  have : off = 0 ∨ off = 1 ∨ 2 ≤ off := by omega
  rcases this with rfl | rfl | h2
  · simp at h0
  · simp at h0
  · rw [Array.getElem?_eq_none (by simp; omega)] at h0
    simp at h0
theorem Rd.stored {w : World} {g : Nat} {b : Bool} {A A' : Option Addr} {n c : Nat} {xs : List Nat} (h : Rd w A' xs) (hb : Bx w g b A n c) (u v : Value) : Rd ((w.setCell ⟨g, 0, none⟩ u).setCell ⟨g, 1, none⟩ v) A' xs := fun hx =>
  ((h.setCell (p := ⟨g, 0, none⟩) (h.offBx hb hx) u).setCell (p := ⟨g, 1, none⟩) (h.offBx hb hx) v) hx
theorem IntV.stored {w : World} {v : Value} {z : Int} (h : IntV w v z) {g : Nat} {b : Bool} {A : Option Addr} {n c : Nat} (hb : Bx w g b A n c) (u u' : Value) : IntV ((w.setCell ⟨g, 0, none⟩ u).setCell ⟨g, 1, none⟩ u') v z := by
  obtain ⟨A, c, r, e, h1, h2, h3, h4, h5⟩ := h
  exact ⟨A, c, r, e, h1, h2, h3.stored hb u u', h4, h5⟩
theorem IntR.stored {w : World} {v : Value} {z : Int} (h : IntR w v z) {g : Nat} {b : Bool} {A : Option Addr} {n c : Nat} (hb : Bx w g b A n c) (u u' : Value) : IntR ((w.setCell ⟨g, 0, none⟩ u).setCell ⟨g, 1, none⟩ u') v z := by
  obtain ⟨A, c, r, e, h3, h4, h5⟩ := h
  exact ⟨A, c, r, e, h3.stored hb u u', h4, h5⟩
theorem below_stored {w w2 : World} {B : Nat} (h : Below B w w2) {g : Nat} (hg : B ≤ g) (u u' : Value) : Below B w ((w2.setCell ⟨g, 0, none⟩ u).setCell ⟨g, 1, none⟩ u') := (h.setCell (p := ⟨g, 0, none⟩) hg u).setCell (p := ⟨g, 1, none⟩) hg u'
/-- the world behind a store into a struct's variable, under a name of its own -/
theorem stored_world {w w2 : World} {g B : Nat} {b : Bool} {A : Option Addr} {n c : Nat} (Y : Bx w2 g b A n c) (hb : Below B w w2) (hg : B ≤ g) (s : Bool) (A' : Option Addr) (n' c' : Nat) :
    ∃ W, (w2.setCell ⟨g, 0, none⟩ (.bool s)).setCell ⟨g, 1, none⟩ (.slice A' n' c') = W ∧ Bx W g s A' n' c' ∧ Below B w W ∧ (∀ v z, IntV w2 v z → IntV W v z) ∧ (∀ v z, IntR w2 v z → IntR W v z) ∧
      (∀ k b1 A1 n1 c1, k ≠ g → Bx w2 k b1 A1 n1 c1 → Bx W k b1 A1 n1 c1) ∧ (∀ A1 xs, Rd w2 A1 xs → Rd W A1 xs) :=
  ⟨_, rfl, Y.stored, below_stored hb hg _ _, fun _ _ h => h.stored Y _ _, fun _ _ h => h.stored Y _ _, fun _ _ _ _ _ hk h => (h.set (p := ⟨g, 0, none⟩) _ hk).set (p := ⟨g, 1, none⟩) _ hk, fun _ _ h => h.stored Y _ _⟩
/-- where a call stands that has laid one struct that came in, and its result's variable -/
theorem new2 (w : World) (s : Bool) (A : Option Addr) (n c : Nat) :
    Below w.heap.size w ((w.alloc (.cells #[.bool s, .slice A n c] 41)).alloc (.cells #[.bool false, .slice none 0 0] 41)) ∧
    Bx ((w.alloc (.cells #[.bool s, .slice A n c] 41)).alloc (.cells #[.bool false, .slice none 0 0] 41)) w.heap.size s A n c ∧
    Bx ((w.alloc (.cells #[.bool s, .slice A n c] 41)).alloc (.cells #[.bool false, .slice none 0 0] 41)) (w.heap.size + 1) false none 0 0 := by
  refine ⟨((Below.refl _ w).alloc (Nat.le_refl _) _).alloc (by simp) _, (Bx.new w s A n c).alloc _, ?_⟩
  have h := Bx.new (w.alloc (.cells #[.bool s, .slice A n c] 41)) false none 0 0
  rw [World.size_alloc] at h
  exact h
/-- the same at two structs -/
theorem new3 (w : World) (s t : Bool) (A B : Option Addr) (n c m d : Nat) :
    Below w.heap.size w (((w.alloc (.cells #[.bool s, .slice A n c] 41)).alloc (.cells #[.bool t, .slice B m d] 41)).alloc (.cells #[.bool false, .slice none 0 0] 41)) ∧
    Bx (((w.alloc (.cells #[.bool s, .slice A n c] 41)).alloc (.cells #[.bool t, .slice B m d] 41)).alloc (.cells #[.bool false, .slice none 0 0] 41)) w.heap.size s A n c ∧
    Bx (((w.alloc (.cells #[.bool s, .slice A n c] 41)).alloc (.cells #[.bool t, .slice B m d] 41)).alloc (.cells #[.bool false, .slice none 0 0] 41)) (w.heap.size + 1) t B m d ∧
    Bx (((w.alloc (.cells #[.bool s, .slice A n c] 41)).alloc (.cells #[.bool t, .slice B m d] 41)).alloc (.cells #[.bool false, .slice none 0 0] 41)) (w.heap.size + 1 + 1) false none 0 0 := by
  obtain ⟨h1, h2, -⟩ := new2 w s A n c
  refine ⟨(((Below.refl _ w).alloc (Nat.le_refl _) _).alloc (by simp) _).alloc (by simp; omega) _, ((Bx.new w s A n c).alloc _).alloc _, ?_, ?_⟩
  · have h := Bx.new (w.alloc (.cells #[.bool s, .slice A n c] 41)) t B m d
    rw [World.size_alloc] at h
    exact h.alloc _
  · have h := Bx.new ((w.alloc (.cells #[.bool s, .slice A n c] 41)).alloc (.cells #[.bool t, .slice B m d] 41)) false none 0 0
    rw [World.size_alloc, World.size_alloc] at h
    exact h
/-- the same with two results -/
theorem new4 (w : World) (s t : Bool) (A B : Option Addr) (n c m d : Nat) :
    Below w.heap.size w ((((w.alloc (.cells #[.bool s, .slice A n c] 41)).alloc (.cells #[.bool t, .slice B m d] 41)).alloc (.cells #[.bool false, .slice none 0 0] 41)).alloc (.cells #[.bool false, .slice none 0 0] 41)) ∧
    Bx ((((w.alloc (.cells #[.bool s, .slice A n c] 41)).alloc (.cells #[.bool t, .slice B m d] 41)).alloc (.cells #[.bool false, .slice none 0 0] 41)).alloc (.cells #[.bool false, .slice none 0 0] 41)) w.heap.size s A n c ∧
    Bx ((((w.alloc (.cells #[.bool s, .slice A n c] 41)).alloc (.cells #[.bool t, .slice B m d] 41)).alloc (.cells #[.bool false, .slice none 0 0] 41)).alloc (.cells #[.bool false, .slice none 0 0] 41)) (w.heap.size + 1) t B m d ∧
    Bx ((((w.alloc (.cells #[.bool s, .slice A n c] 41)).alloc (.cells #[.bool t, .slice B m d] 41)).alloc (.cells #[.bool false, .slice none 0 0] 41)).alloc (.cells #[.bool false, .slice none 0 0] 41)) (w.heap.size + 1 + 1) false none 0 0 ∧
    Bx ((((w.alloc (.cells #[.bool s, .slice A n c] 41)).alloc (.cells #[.bool t, .slice B m d] 41)).alloc (.cells #[.bool false, .slice none 0 0] 41)).alloc (.cells #[.bool false, .slice none 0 0] 41)) (w.heap.size + 1 + 1 + 1) false none 0 0 := by
  obtain ⟨h1, h2, h3, h4⟩ := new3 w s t A B n c m d
  refine ⟨h1.alloc h1.size _, h2.alloc _, h3.alloc _, h4.alloc _, ?_⟩
  have h := Bx.new (((w.alloc (.cells #[.bool s, .slice A n c] 41)).alloc (.cells #[.bool t, .slice B m d] 41)).alloc (.cells #[.bool false, .slice none 0 0] 41)) false none 0 0
  rw [World.size_alloc, World.size_alloc, World.size_alloc] at h
  exact h
theorem Bx.c0 {w : World} {g : Nat} {b : Bool} {A : Option Addr} {n c : Nat} (h : Bx w g b A n c) : w.cell? ⟨g, 0, none⟩ = some (.bool b) := h.facts.1
theorem Bx.c1 {w : World} {g : Nat} {b : Bool} {A : Option Addr} {n c : Nat} (h : Bx w g b A n c) : w.cell? ⟨g, 1, none⟩ = some (.slice A n c) := h.facts.2.1

end LM
end Go.Proofs.YtpoojlnndgoeoaaGreatDoor
