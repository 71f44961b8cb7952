/- Walks: the document's Of once more, with what is known of the room. -/
import Derived.Test.YtpnjddfnlaonoaaGreatDoorL08
import Derived.Test.YtpnjddfnlaonoaaGreatDoorL18
import Derived.Deep.RegionHeld3
import Derived.Test.YtpnjddfnlaonoaaGreatDoorL17
import Derived.Test.YtpnjddfnlaonoaaGreatDoorL19
import Derived.Test.YtpnjddfnlaonoaaGreatDoorL07
import Derived.Test.YtpnjddfnlaonoaaGreatDoorL21
import Derived.LoopTactic
import Derived.Deep.LoopGhost
import Derived.Deep.DeepCutAuto
import Derived.WalkMore
import Derived.ScopeJumps
import Derived.Deep.QuietTactic
import Derived.BigQuiet
namespace Go.Proofs.YtpnjddfnlaonoaaGreatDoor
open Go.RowKit
namespace LM
set_option linter.unusedVariables false

/-- small enough for the document's own sums and products -/
def FitI (z : Int) : Prop := z.natAbs < 4294967296 ^ 130
theorem fit_of {z : Int} (h : ¬ BigI z) : FitI z := by
  have h1 : z.natAbs < 4294967296 ^ 64 := Nat.lt_of_not_le h
  exact Nat.lt_of_lt_of_le h1 (Nat.pow_le_pow_right (by decide) (by decide))
theorem fit_len {r : List Nat} {z : Int} (hc : Can r) (hv : val r = z.natAbs) (hf : FitI z) : r.length ≤ 130 := by
  rcases Nat.lt_or_ge 130 r.length with h | h
  · have := (can_len hc 130).1 h
    rw [hv] at this
    exact absurd hf (by unfold FitI; omega)
  · exact h
theorem newc1 (w : World) : Below w.heap.size w (w.alloc (.cells #[.bool false, .slice none 0 0] 36)) ∧ Bx (w.alloc (.cells #[.bool false, .slice none 0 0] 36)) w.heap.size false none 0 0 :=
  ⟨(Below.refl _ w).alloc (Nat.le_refl _) _, Bx.new w false none 0 0⟩
/-- a call that answers a whole number in new memory, whatever its room -/
def RetR (w : World) (z : Int) (e : Ending) (w' : World) : Prop := ∃ s A n c, e = .returned (.agg #[.bool s, .slice A n c]) ∧ IntR w' (.agg #[.bool s, .slice A n c]) z ∧ Below w.heap.size w w'
theorem IntR.bx {w : World} {v : Value} {z : Int} (h : IntR w v z) : ∃ A n c, v = .agg #[.bool (decide (z < 0)), .slice A n c] := by
  obtain ⟨A, c, r, e, _⟩ := h
  exact ⟨A, _, c, e⟩
theorem IntR.parts {w : World} {b : Bool} {A : Option Addr} {n c : Nat} {z : Int} (h : IntR w (.agg #[.bool b, .slice A n c]) z) : b = decide (z < 0) ∧ (n = 0 ↔ z = 0) ∧ (FitI z → n ≤ 130) ∧ (64 < n ↔ BigI z) := by
  obtain ⟨A', c', r, e, h3, h4, h5⟩ := h
  simp only [Value.agg.injEq, Array.mk.injEq, List.cons.injEq, Value.bool.injEq, Value.slice.injEq, and_true] at e
  obtain ⟨rfl, rfl, rfl, rfl⟩ := e
  refine ⟨rfl, by rw [can_zero h4, h5]; omega, fun hf => fit_len h4 h5 hf, ?_⟩
  unfold BigI
  rw [big_iff h4, h5]
theorem IntR.alloc {w : World} {v : Value} {z : Int} (h : IntR w v z) (o : Obj) : IntR (w.alloc o) v z := h.keep ((Below.refl _ _).alloc (Nat.le_refl _) _)
theorem IntR.drew {w : World} {v : Value} {z : Int} (h : IntR w v z) : IntR w.drew v z := h.keep (Below.refl _ _).drew

set_option maxRecDepth 100000 in
set_option maxHeartbeats 1000000 in
theorem rmade_nil (neg : Bool) (A : Option Addr) (c : Nat) (w : World) :
    Calls Tryz.prog 118 #[.bool neg, .slice A 0 c] w (RetR w 0) := by
  obtain ⟨hb0, x0⟩ := newc1 w
  have HB0 := Lib.hid hb0
  have X0 := Lib.hid x0
  clear hb0 x0
  go_enter Tryz.func118, Tryz.ntmps118
  go_wp2
  refine bodyPost_ret (v := .agg #[.bool false, .slice none 0 0]) (by simp [results, Tryz.results118, go_sem]) rfl ?_
  exact ⟨_, _, _, _, rfl, ⟨none, 0, [], rfl, Rd.nil, can_nil, rfl⟩, HB0.out⟩

set_option maxRecDepth 100000 in
set_option maxHeartbeats 1000000 in
theorem rmade_some (neg : Bool) (A : Option Addr) (c : Nat) (r : List Nat) (w : World) (h0 : 0 < r.length) (hl : r.length ≤ 10000) (h3 : Rd w A r) (h4 : Can r) :
    Calls Tryz.prog 118 #[.bool neg, .slice A r.length c] w (RetR w (sg neg (val r))) := by
  have hz : ((r.length : Int) == 0) = false := by simp; intro h; rw [h] at h0; simp at h0
  have HR := Lib.hid (h3.alloc (.cells #[.bool neg, .slice A r.length c] 36))
  have HP := Lib.hid ((can_pos h4).1 h0)
  have HC := Lib.hid h4
  clear h0 h3 h4
  go_enter Tryz.func118, Tryz.ntmps118
  go_wp2
  refine bodyPost_ret (v := .agg #[.bool neg, .slice A r.length c]) (by simp [results, Tryz.results118, go_sem]) rfl ?_
  refine ⟨_, _, _, _, rfl, ⟨A, c, r, ?_, HR.out, HC.out, (sg_abs _ _).symm⟩, (Below.refl _ _).alloc (Nat.le_refl _) _⟩
  rw [sg_neg, decide_eq_true HP.out, Bool.and_true]

theorem rmade_num (neg : Bool) (A : Option Addr) (c : Nat) (r : List Nat) (w : World) (hl : r.length ≤ 10000) (h3 : Rd w A r) (h4 : Can r) :
    Calls Tryz.prog 118 #[.bool neg, .slice A r.length c] w (RetR w (sg neg (val r))) := by
  rcases Nat.eq_zero_or_pos r.length with h | h
  · have hv : val r = 0 := (can_zero h4).1 h
    rw [h, hv, sg_zero]
    exact rmade_nil neg A c w
  · exact rmade_some neg A c r w h hl h3 h4

theorem sg_self2 {z : Int} {n : Nat} (h : n = z.natAbs) : sg (decide (z < 0)) n = z := by rw [h, sg_of]
/-- the document's answer, capped -/
def RetC (w : World) (z : Int) (e : Ending) (w' : World) : Prop := ∃ s A n c er, e = .returned (.tuple #[.agg #[.bool s, .slice A n c], .int .i64 er]) ∧
  ((BigI z ∧ er = 11 ∧ IntR w' (.agg #[.bool s, .slice A n c]) 0) ∨ (¬ BigI z ∧ er = 0 ∧ IntR w' (.agg #[.bool s, .slice A n c]) z)) ∧ Below w.heap.size w w'
theorem intR_nil (w : World) : IntR w (.agg #[.bool false, .slice none 0 0]) 0 := ⟨none, 0, [], rfl, Rd.nil, can_nil, rfl⟩

set_option maxRecDepth 100000 in
set_option maxHeartbeats 1000000 in
theorem rsame2_diff (s t : Bool) (hst : ¬ s = t) (A B : Option Addr) (ca cb : Nat) (xs ys : List Nat) (w : World) (ha : Rd w A xs) (hb : Rd w B ys) (hxl : xs.length ≤ 1000000) :
    Calls Tryz.prog 68 #[.agg #[.bool s, .slice A xs.length ca], .agg #[.bool t, .slice B ys.length cb]] w fun e w' => e = .returned (.bool (false)) ∧ Below w.heap.size w w' := by
  have heq : (s == t) = false := by simp; exact hst
  obtain ⟨hb0, x0, y0⟩ := newp2 w s t A B xs.length ca ys.length cb
  have HB0 := Lib.hid hb0
  have H1 := Lib.hid (same_any A B ca cb xs ys _ (ha.below hb0) (hb.below hb0) hxl)
  clear hb0 x0 y0 ha hb hst
  go_enter Tryz.func68, Tryz.ntmps68
  go_wp2
  go_ret
  exact ⟨rfl, HB0.out⟩

set_option maxRecDepth 100000 in
set_option maxHeartbeats 1000000 in
theorem rsame2_same (s : Bool)  (A B : Option Addr) (ca cb : Nat) (xs ys : List Nat) (w : World) (ha : Rd w A xs) (hb : Rd w B ys) (hxl : xs.length ≤ 1000000) :
    Calls Tryz.prog 68 #[.agg #[.bool s, .slice A xs.length ca], .agg #[.bool s, .slice B ys.length cb]] w fun e w' => e = .returned (.bool (sameB xs ys)) ∧ Below w.heap.size w w' := by
  have heq : (s == s) = true := by simp
  obtain ⟨hb0, x0, y0⟩ := newp2 w s s A B xs.length ca ys.length cb
  have HB0 := Lib.hid hb0
  have H1 := Lib.hid (same_any A B ca cb xs ys _ (ha.below hb0) (hb.below hb0) hxl)
  clear hb0 x0 y0 ha hb
  go_enter Tryz.func68, Tryz.ntmps68
  go_wp2_with fail
  refine H1.out.mono ?_
  rintro e w2 ⟨rfl, hb2⟩
  have HB2 := Lib.hid (HB0.out.trans (hb2.mono HB0.out.size))
  clear hb2
  go_wp2
  go_ret
  exact ⟨rfl, HB2.out⟩

theorem rsame2_int {va vb : Value} {x y : Int} {w : World} (ha : IntR w va x) (hb : IntR w vb y) (hx : FitI x) : Calls Tryz.prog 68 #[va, vb] w fun e w' => e = .returned (.bool (decide (x = y))) ∧ Below w.heap.size w w' := by
  obtain ⟨A, ca, xs, rfl, h3, h4, h5⟩ := ha
  obtain ⟨B, cb, ys, rfl, k3, k4, k5⟩ := hb
  have l1 := fit_len h4 h5 hx
  by_cases hs : decide (x < 0) = decide (y < 0)
  · have h := rsame2_same (decide (x < 0)) A B ca cb xs ys w h3 k3 (by omega)
    have he : sameB xs ys = decide (x = y) := by
      unfold sameB
      refine decide_eq_decide.2 ⟨fun e => ?_, fun e => can_ext h4 k4 (by rw [h5, k5, e])⟩
      have e1 := sg_self2 h5
      have e2 := sg_self2 k5
      rw [← e1, ← e2, hs, e]
    rw [he] at h
    rw [← hs]
    exact h
  · have h := rsame2_diff (decide (x < 0)) (decide (y < 0)) hs A B ca cb xs ys w h3 k3 (by omega)
    rw [show decide (x = y) = false from decide_eq_false fun e => hs (by rw [e])]
    exact h
/-- structs that lie in these blocks -/
def Bxs (w : World) (L : List (Nat × Bool × Option Addr × Nat × Nat)) : Prop := ∀ p ∈ L, Bx w p.1 p.2.1 p.2.2.1 p.2.2.2.1 p.2.2.2.2
/-- values that read as these whole numbers -/
def Rs (w : World) (L : List (Value × Int)) : Prop := ∀ p ∈ L, IntR w p.1 p.2
section
variable {w w' : World} {L : List (Nat × Bool × Option Addr × Nat × Nat)} {M : List (Value × Int)}
theorem Bxs.nil : Bxs w [] := fun p h => by cases h
theorem Bxs.cons {g : Nat} {b : Bool} {A : Option Addr} {n c : Nat} (h : Bx w g b A n c) (hs : Bxs w L) : Bxs w ((g, b, A, n, c) :: L) := fun p hp => by
  rcases List.mem_cons.1 hp with rfl | hp
  · exact h
  · exact hs p hp
theorem Bxs.below (h : Bxs w L) (hb : Below w.heap.size w w') : Bxs w' L := fun p hp => (h p hp).below hb
theorem Bxs.alloc (h : Bxs w L) (o : Obj) : Bxs (w.alloc o) L := fun p hp => (h p hp).alloc o
theorem Bxs.drew (h : Bxs w L) : Bxs w.drew L := h
theorem Bxs.new (h : Bxs w L) (b : Bool) (A : Option Addr) (n c : Nat) : Bxs (w.alloc (.cells #[.bool b, .slice A n c] 36)) ((w.heap.size, b, A, n, c) :: L) := (h.alloc _).cons (Bx.new w b A n c)
theorem Bxs.hd {g : Nat} {b : Bool} {A : Option Addr} {n c : Nat} (h : Bxs w ((g, b, A, n, c) :: L)) : Bx w g b A n c := h _ (List.mem_cons_self ..)
theorem Bxs.tl {p : Nat × Bool × Option Addr × Nat × Nat} (h : Bxs w (p :: L)) : Bxs w L := fun q hq => h q (List.mem_cons_of_mem _ hq)
theorem Rs.nil : Rs w [] := fun p h => by cases h
theorem Rs.cons {v : Value} {z : Int} (h : IntR w v z) (hs : Rs w M) : Rs w ((v, z) :: M) := fun p hp => by
  rcases List.mem_cons.1 hp with rfl | hp
  · exact h
  · exact hs p hp
theorem Rs.keep (h : Rs w M) (hb : Below w.heap.size w w') : Rs w' M := fun p hp => (h p hp).keep hb
theorem Rs.alloc (h : Rs w M) (o : Obj) : Rs (w.alloc o) M := fun p hp => (h p hp).alloc o
theorem Rs.drew (h : Rs w M) : Rs w.drew M := h.keep (Below.refl _ _).drew
theorem Rs.hd {v : Value} {z : Int} (h : Rs w ((v, z) :: M)) : IntR w v z := h _ (List.mem_cons_self ..)
theorem Rs.tl {p : Value × Int} (h : Rs w (p :: M)) : Rs w M := fun q hq => h q (List.mem_cons_of_mem _ hq)
end
/-- the outcome of a reckoning that may be too great, by one number -/
def Out (z zr er : Int) : Prop := (BigI z ∧ er = 11 ∧ zr = 0) ∨ (¬ BigI z ∧ er = 0 ∧ zr = z)
theorem Out.same {z a b e f : Int} (h : Out z a e) (k : Out z b f) : a = b ∧ e = f := by
  rcases h with ⟨h1, rfl, rfl⟩ | ⟨h1, rfl, rfl⟩ <;> rcases k with ⟨k1, rfl, rfl⟩ | ⟨k1, rfl, rfl⟩
  · exact ⟨rfl, rfl⟩
  · exact absurd h1 k1
  · exact absurd k1 h1
  · exact ⟨rfl, rfl⟩
theorem bigI_zero : ¬ BigI 0 := not_big_zero
theorem Out.fit {z a e : Int} (h : Out z a e) : ¬ BigI a := by
  rcases h with ⟨_, _, rfl⟩ | ⟨h1, _, rfl⟩
  · exact bigI_zero
  · exact h1
theorem RetE.out {w w' : World} {z : Int} {e : Ending} (h : RetE w z e w') : ∃ s A n c er zr, e = .returned (.tuple #[.agg #[.bool s, .slice A n c], .int .i64 er]) ∧ IntV w' (.agg #[.bool s, .slice A n c]) zr ∧ Out z zr er ∧ Below w.heap.size w w' := by
  obtain ⟨s, A, n, c, er, rfl, ⟨h1, h2, h3⟩ | ⟨h1, h2, h3⟩, hb⟩ := h
  · exact ⟨s, A, n, c, er, 0, rfl, h3, .inl ⟨h1, h2, rfl⟩, hb⟩
  · exact ⟨s, A, n, c, er, z, rfl, h3, .inr ⟨h1, h2, rfl⟩, hb⟩
theorem RetC.out {w w' : World} {z : Int} {e : Ending} (h : RetC w z e w') : ∃ s A n c er zr, e = .returned (.tuple #[.agg #[.bool s, .slice A n c], .int .i64 er]) ∧ IntR w' (.agg #[.bool s, .slice A n c]) zr ∧ Out z zr er ∧ Below w.heap.size w w' := by
  obtain ⟨s, A, n, c, er, rfl, ⟨h1, h2, h3⟩ | ⟨h1, h2, h3⟩, hb⟩ := h
  · exact ⟨s, A, n, c, er, 0, rfl, h3, .inl ⟨h1, h2, rfl⟩, hb⟩
  · exact ⟨s, A, n, c, er, z, rfl, h3, .inr ⟨h1, h2, rfl⟩, hb⟩
/-- the document's Same of the same number -/
theorem rsame2_yes {va vb : Value} {x : Int} {w : World} (ha : IntR w va x) (hb : IntR w vb x) (hx : ¬ BigI x) : Calls Tryz.prog 68 #[va, vb] w fun e w' => e = .returned (.bool true) ∧ Below w.heap.size w w' := by
  have h := rsame2_int ha hb (fit_of hx)
  rw [decide_eq_true (rfl : x = x)] at h
  exact h

end LM
end Go.Proofs.YtpnjddfnlaonoaaGreatDoor

namespace Go.Proofs.YtpnjddfnlaonoaaGreatDoor
open Go.RowKit
namespace LM
set_option linter.unusedVariables false

/-- what a division comes to -/
def QOut (x y q r e : Int) : Prop := (y = 0 ∧ e = 12 ∧ q = 0 ∧ r = 0) ∨ (y ≠ 0 ∧ e = 0 ∧ q = quoI x y ∧ r = remI x y)
def MOut (x y m e : Int) : Prop := (y = 0 ∧ e = 12 ∧ m = 0) ∨ (y ≠ 0 ∧ e = 0 ∧ m = modI x y)
theorem QOut.same {x y a b c d e f : Int} (h : QOut x y a b e) (k : QOut x y c d f) : a = c ∧ b = d ∧ e = f := by
  rcases h with ⟨h1, rfl, rfl, rfl⟩ | ⟨h1, rfl, rfl, rfl⟩ <;> rcases k with ⟨k1, rfl, rfl, rfl⟩ | ⟨k1, rfl, rfl, rfl⟩
  · exact ⟨rfl, rfl, rfl⟩
  · exact absurd h1 k1
  · exact absurd k1 h1
  · exact ⟨rfl, rfl, rfl⟩
theorem MOut.same {x y a b e f : Int} (h : MOut x y a e) (k : MOut x y b f) : a = b ∧ e = f := by
  rcases h with ⟨h1, rfl, rfl⟩ | ⟨h1, rfl, rfl⟩ <;> rcases k with ⟨k1, rfl, rfl⟩ | ⟨k1, rfl, rfl⟩
  · exact ⟨rfl, rfl⟩
  · exact absurd h1 k1
  · exact absurd k1 h1
  · exact ⟨rfl, rfl⟩
theorem QOut.fit {x y q r e : Int} (h : QOut x y q r e) (hx : ¬ BigI x) : ¬ BigI q ∧ ¬ BigI r := by
  rcases h with ⟨_, _, rfl, rfl⟩ | ⟨_, _, rfl, rfl⟩
  · exact ⟨bigI_zero, bigI_zero⟩
  · exact ⟨quo_not_big hx, rem_not_big hx⟩
theorem MOut.fit {x y m e : Int} (h : MOut x y m e) (hy : ¬ BigI y) : ¬ BigI m := by
  rcases h with ⟨_, _, rfl⟩ | ⟨h, _, rfl⟩
  · exact bigI_zero
  · exact fun hb => hy (hb.mono (Nat.le_of_lt (mod_lt_abs x y h)))
theorem RetQ.out {w w' : World} {x y : Int} {e : Ending} (h : RetQ w x y e w') : ∃ s A n c s' A' n' c' er q r, e = .returned (.tuple #[.agg #[.bool s, .slice A n c], .agg #[.bool s', .slice A' n' c'], .int .i64 er]) ∧
    IntV w' (.agg #[.bool s, .slice A n c]) q ∧ IntV w' (.agg #[.bool s', .slice A' n' c']) r ∧ QOut x y q r er ∧ Below w.heap.size w w' := by
  obtain ⟨s, A, n, c, s', A', n', c', er, rfl, ⟨h1, h2, h3, h4⟩ | ⟨h1, h2, h3, h4⟩, hb⟩ := h
  · exact ⟨s, A, n, c, s', A', n', c', er, 0, 0, rfl, h3, h4, .inl ⟨h1, h2, rfl, rfl⟩, hb⟩
  · exact ⟨s, A, n, c, s', A', n', c', er, _, _, rfl, h3, h4, .inr ⟨h1, h2, rfl, rfl⟩, hb⟩
theorem RetM.out {w w' : World} {x y : Int} {e : Ending} (h : RetM w x y e w') : ∃ s A n c er m, e = .returned (.tuple #[.agg #[.bool s, .slice A n c], .int .i64 er]) ∧ IntV w' (.agg #[.bool s, .slice A n c]) m ∧ MOut x y m er ∧ Below w.heap.size w w' := by
  obtain ⟨s, A, n, c, er, rfl, ⟨h1, h2, h3⟩ | ⟨h1, h2, h3⟩, hb⟩ := h
  · exact ⟨s, A, n, c, er, 0, rfl, h3, .inl ⟨h1, h2, rfl⟩, hb⟩
  · exact ⟨s, A, n, c, er, _, rfl, h3, .inr ⟨h1, h2, rfl⟩, hb⟩
end LM
end Go.Proofs.YtpnjddfnlaonoaaGreatDoor

namespace Go.Proofs.YtpnjddfnlaonoaaGreatDoor
open Go.RowKit
namespace LM
set_option linter.unusedVariables false

def PowE (w : World) (o : Option Int) (e : Ending) (w' : World) : Prop := ∃ s A n c er, e = .returned (.tuple #[.agg #[.bool s, .slice A n c], .int .i64 er]) ∧
  ((o = none ∧ er = 11 ∧ IntV w' (.agg #[.bool s, .slice A n c]) 0) ∨ (∃ z, o = some z ∧ er = 0 ∧ IntV w' (.agg #[.bool s, .slice A n c]) z)) ∧ Below w.heap.size w w'
theorem SmallE.inn' {x : Int} {e : Ending} (h : SmallE x e) (h1 : -9223372036854775808 ≤ x) (h2 : x ≤ 9223372036854775807) : e = .returned (.tuple #[.int .i64 x, .bool true]) := by
  rcases h with ⟨_, _, h3⟩ | ⟨h3, _⟩
  · exact h3
  · exact absurd ⟨h1, h2⟩ h3
/-- where Pow stands ahead of its rounds -/
def PwS (w wx : World) (g8 g9 : Nat) (p a : Int) : Prop := ∃ s8 A8 n8 c8 s9 A9 n9 c9, w.heap.size ≤ g8 ∧ w.heap.size ≤ g9 ∧ g8 ≠ g9 ∧ g8 ≠ w.heap.size + 1 + 1 ∧ g9 ≠ w.heap.size + 1 + 1 ∧
  Bx wx g8 s8 A8 n8 c8 ∧ Bx wx g9 s9 A9 n9 c9 ∧ Bx wx (w.heap.size + 1 + 1) false none 0 0 ∧ IntV wx (.agg #[.bool s8, .slice A8 n8 c8]) p ∧ IntV wx (.agg #[.bool s9, .slice A9 n9 c9]) a ∧ Below w.heap.size w wx

theorem le1 {w w2 : World} {o : Obj} (hb : Below (w.alloc o).drew.heap.size (w.alloc o).drew w2) : w.heap.size + 1 ≤ w2.heap.size := by
  have h : (w.alloc o).heap.size ≤ w2.heap.size := hb.size
  rw [World.size_alloc] at h
  exact h
theorem le2 {w w2 : World} {o o' : Obj} (hb : Below ((w.alloc o).alloc o').drew.heap.size ((w.alloc o).alloc o').drew w2) : w.heap.size + 1 + 1 ≤ w2.heap.size := by
  have h : ((w.alloc o).alloc o').heap.size ≤ w2.heap.size := hb.size
  rw [World.size_alloc, World.size_alloc] at h
  exact h
/-- blocks, and two whole numbers that abide -/
def Qs (w W : World) (L : List (Nat × Bool × Option Addr × Nat × Nat)) (v1 va : Value) (p a : Int) : Prop := Bxs W L ∧ IntV W v1 p ∧ IntV W va a ∧ Below w.heap.size w W
section
variable {w W : World} {L : List (Nat × Bool × Option Addr × Nat × Nat)} {v1 va : Value} {p a : Int}
theorem Qs.new (h : Qs w W L v1 va p a) (b : Bool) (A : Option Addr) (n c g : Nat) (hg : g = W.heap.size) : Qs w (W.alloc (.cells #[.bool b, .slice A n c] 36)) ((g, b, A, n, c) :: L) v1 va p a := by
  subst hg
  exact ⟨h.1.new b A n c, h.2.1.alloc _, h.2.2.1.alloc _, h.2.2.2.alloc h.2.2.2.size _⟩
theorem Bxs.setr {g : Nat} (h : Bxs W L) (hL : ∀ q ∈ L, q.1 ≠ g) (u u' : Value) : Bxs ((W.setCell ⟨g, 0, none⟩ u).setCell ⟨g, 1, none⟩ u') L := fun q hq => ((h q hq).set (p := ⟨g, 0, none⟩) u (hL q hq)).set (p := ⟨g, 1, none⟩) u' (hL q hq)
theorem Qs.st0 {g : Nat} {b : Bool} {A : Option Addr} {n c : Nat} (h : Qs w W ((g, b, A, n, c) :: L) v1 va p a) (hL : ∀ q ∈ L, q.1 ≠ g) (hg : w.heap.size ≤ g) (b' : Bool) (A' : Option Addr) (n' c' : Nat) :
    Qs w ((W.setCell ⟨g, 0, none⟩ (.bool b')).setCell ⟨g, 1, none⟩ (.slice A' n' c')) ((g, b', A', n', c') :: L) v1 va p a :=
  ⟨(h.1.tl.setr hL _ _).cons h.1.hd.stored, h.2.1.stored h.1.hd _ _, h.2.2.1.stored h.1.hd _ _, below_stored h.2.2.2 hg _ _⟩
theorem Qs.st1 {q0 : Nat × Bool × Option Addr × Nat × Nat} {g : Nat} {b : Bool} {A : Option Addr} {n c : Nat} (h : Qs w W (q0 :: (g, b, A, n, c) :: L) v1 va p a) (h0 : q0.1 ≠ g) (hL : ∀ q ∈ L, q.1 ≠ g) (hg : w.heap.size ≤ g) (b' : Bool) (A' : Option Addr) (n' c' : Nat) :
    Qs w ((W.setCell ⟨g, 0, none⟩ (.bool b')).setCell ⟨g, 1, none⟩ (.slice A' n' c')) (q0 :: (g, b', A', n', c') :: L) v1 va p a :=
  ⟨Bxs.cons (((h.1.hd).set (p := ⟨g, 0, none⟩) _ h0).set (p := ⟨g, 1, none⟩) _ h0) ((h.1.tl.tl.setr hL _ _).cons h.1.tl.hd.stored), h.2.1.stored h.1.tl.hd _ _, h.2.2.1.stored h.1.tl.hd _ _, below_stored h.2.2.2 hg _ _⟩
theorem one_ne {r g : Nat} {b : Bool} {A : Option Addr} {n c : Nat} (h : r ≠ g) : ∀ q ∈ [((r, b, A, n, c) : Nat × Bool × Option Addr × Nat × Nat)], q.1 ≠ g := fun q hq => by
  rw [List.mem_singleton] at hq
  subst hq
  exact h
theorem two_ne {r k g : Nat} {b b' : Bool} {A A' : Option Addr} {n c n' c' : Nat} (h : r ≠ g) (h' : k ≠ g) : ∀ q ∈ [((k, b', A', n', c') : Nat × Bool × Option Addr × Nat × Nat), (r, b, A, n, c)], q.1 ≠ g := fun q hq => by
  rcases List.mem_cons.1 hq with rfl | hq
  · exact h'
  · exact one_ne h q hq
theorem Qs.o89 {g8 g9 : Nat} {s8 s9 : Bool} {A8 A9 : Option Addr} {n8 c8 n9 c9 : Nat} (h : Qs w W [(g9, s9, A9, n9, c9), (g8, s8, A8, n8, c8), (w.heap.size + 1 + 1, false, none, 0, 0)] (.agg #[.bool s8, .slice A8 n8 c8]) (.agg #[.bool s9, .slice A9 n9 c9]) p a)
    (h8 : w.heap.size + 1 + 1 < g8) (h9 : w.heap.size + 1 + 1 < g9) (hn : g8 ≠ g9) : PwS w W g8 g9 p a :=
  ⟨_, _, _, _, _, _, _, _, by omega, by omega, hn, by omega, by omega, h.1.tl.hd, h.1.hd, h.1.tl.tl.hd, h.2.1, h.2.2.1, h.2.2.2⟩
theorem Qs.o98 {g8 g9 : Nat} {s8 s9 : Bool} {A8 A9 : Option Addr} {n8 c8 n9 c9 : Nat} (h : Qs w W [(g8, s8, A8, n8, c8), (g9, s9, A9, n9, c9), (w.heap.size + 1 + 1, false, none, 0, 0)] (.agg #[.bool s8, .slice A8 n8 c8]) (.agg #[.bool s9, .slice A9 n9 c9]) p a)
    (h8 : w.heap.size + 1 + 1 < g8) (h9 : w.heap.size + 1 + 1 < g9) (hn : g8 ≠ g9) : PwS w W g8 g9 p a :=
  ⟨_, _, _, _, _, _, _, _, by omega, by omega, hn, by omega, by omega, h.1.hd, h.1.tl.hd, h.1.tl.tl.hd, h.2.1, h.2.2.1, h.2.2.2⟩
end
theorem bel1 {B : Nat} {w W : World} (h : Below B w W) (o : Obj) (hB : B ≤ w.heap.size := by exact Nat.le_refl _) : Below B w (W.alloc o).drew := (h.alloc (Nat.le_trans hB h.size) o).drew
theorem bel2 {B : Nat} {w W : World} (h : Below B w W) (o o' : Obj) (hB : B ≤ w.heap.size := by exact Nat.le_refl _) : Below B w ((W.alloc o).alloc o').drew := ((h.alloc (Nat.le_trans hB h.size) o).alloc (Nat.le_trans hB (by have := h.size; simp; omega)) o').drew
theorem bel_trans {B : Nat} {w W w2 : World} (h : Below B w W) (hb : Below W.heap.size W w2) (hB : B ≤ w.heap.size := by exact Nat.le_refl _) : Below B w w2 := h.trans (hb.mono (Nat.le_trans hB h.size))
theorem one_new {w w2 : World} {b : Bool} {A : Option Addr} {n c : Nat} (hb : Below (w.alloc (.cells #[.bool b, .slice A n c] 36)).drew.heap.size (w.alloc (.cells #[.bool b, .slice A n c] 36)).drew w2) : Bx w2 w.heap.size b A n c := (Bx.new w b A n c).drew.below hb
theorem two_fst {w w2 : World} {o : Obj} {b : Bool} {A : Option Addr} {n c : Nat} (hb : Below ((w.alloc (.cells #[.bool b, .slice A n c] 36)).alloc o).drew.heap.size ((w.alloc (.cells #[.bool b, .slice A n c] 36)).alloc o).drew w2) : Bx w2 w.heap.size b A n c := ((Bx.new w b A n c).alloc o).drew.below hb
theorem two_snd {w w2 : World} {o : Obj} {b : Bool} {A : Option Addr} {n c : Nat} (hb : Below ((w.alloc o).alloc (.cells #[.bool b, .slice A n c] 36)).drew.heap.size ((w.alloc o).alloc (.cells #[.bool b, .slice A n c] 36)).drew w2) : Bx w2 (w.heap.size + 1) b A n c := by
  have h := (Bx.new (w.alloc o) b A n c).drew.below hb
  rw [World.size_alloc] at h
  exact h

section
variable {w w2 : World} {K : Nat} {s s2 b1 b2 : Bool} {A A2 A1 B2 : Option Addr} {n c n2 c2 n1 c1 m2 d2 : Nat} {p a : Int}
theorem pw_fin0 (q : Qs w w2 [(w.heap.size + 1 + 1, false, none, 0, 0)] (.agg #[.bool s2, .slice A2 n2 c2]) (.agg #[.bool s, .slice A n c]) p a) (hN : w.heap.size + 1 + 1 < K) (hl : K ≤ w2.heap.size) :
    PwS w ((w2.alloc (.cells #[.bool s2, .slice A2 n2 c2] 36)).alloc (.cells #[.bool s, .slice A n c] 36)) w2.heap.size (w2.heap.size + 1) p a :=
  ((q.new _ _ _ _ _ (by simp)).new _ _ _ _ _ (by simp)).o89 (by omega) (by omega) (by omega)
theorem pw_fin1 (q : Qs w w2 [(w.heap.size + 1 + 1, false, none, 0, 0)] (.agg #[.bool s2, .slice A2 n2 c2]) (.agg #[.bool s, .slice A n c]) p a) (hN : w.heap.size + 1 + 1 < K) (hl : K ≤ w2.heap.size) :
    PwS w ((w2.alloc (.cells #[.bool s, .slice A n c] 36)).alloc (.cells #[.bool s2, .slice A2 n2 c2] 36)) (w2.heap.size + 1) w2.heap.size p a :=
  ((q.new _ _ _ _ _ (by simp)).new _ _ _ _ _ (by simp)).o98 (by omega) (by omega) (by omega)
theorem pw_fin2 (q : Qs w w2 [(K, b1, A1, n1, c1), (w.heap.size + 1 + 1, false, none, 0, 0)] (.agg #[.bool s2, .slice A2 n2 c2]) (.agg #[.bool s, .slice A n c]) p a) (hN : w.heap.size + 1 + 1 < K) (hl : K + 1 ≤ w2.heap.size) :
    PwS w (((w2.setCell ⟨K, 0, none⟩ (.bool s2)).setCell ⟨K, 1, none⟩ (.slice A2 n2 c2)).alloc (.cells #[.bool s, .slice A n c] 36)) K w2.heap.size p a :=
  ((q.st0 (one_ne (by omega)) (by omega) _ _ _ _).new _ _ _ _ _ (by simp)).o89 (by omega) (by omega) (by omega)
theorem pw_fin3 (q : Qs w w2 [(K, b1, A1, n1, c1), (w.heap.size + 1 + 1, false, none, 0, 0)] (.agg #[.bool s2, .slice A2 n2 c2]) (.agg #[.bool s, .slice A n c]) p a) (hN : w.heap.size + 1 + 1 < K) (hl : K + 1 ≤ w2.heap.size) :
    PwS w (((w2.setCell ⟨K, 0, none⟩ (.bool s)).setCell ⟨K, 1, none⟩ (.slice A n c)).alloc (.cells #[.bool s2, .slice A2 n2 c2] 36)) w2.heap.size K p a :=
  ((q.st0 (one_ne (by omega)) (by omega) _ _ _ _).new _ _ _ _ _ (by simp)).o98 (by omega) (by omega) (by omega)
theorem pw_fin4 (q : Qs w w2 [(K, s, A, n, c), (w.heap.size + 1 + 1, false, none, 0, 0)] (.agg #[.bool s2, .slice A2 n2 c2]) (.agg #[.bool s, .slice A n c]) p a) (hN : w.heap.size + 1 + 1 < K) (hl : K + 1 ≤ w2.heap.size) :
    PwS w (w2.alloc (.cells #[.bool s2, .slice A2 n2 c2] 36)) w2.heap.size K p a :=
  (q.new _ _ _ _ _ (by simp)).o98 (by omega) (by omega) (by omega)
theorem pw_fin5 (q : Qs w w2 [(K + 1, b2, B2, m2, d2), (K, b1, A1, n1, c1), (w.heap.size + 1 + 1, false, none, 0, 0)] (.agg #[.bool s2, .slice A2 n2 c2]) (.agg #[.bool s, .slice A n c]) p a) (hN : w.heap.size + 1 + 1 < K) (hl : K + 1 + 1 ≤ w2.heap.size) :
    PwS w ((((w2.setCell ⟨K, 0, none⟩ (.bool s2)).setCell ⟨K, 1, none⟩ (.slice A2 n2 c2)).setCell ⟨(K + 1), 0, none⟩ (.bool s)).setCell ⟨(K + 1), 1, none⟩ (.slice A n c)) K (K + 1) p a :=
  ((q.st1 (by simp) (one_ne (by omega)) (by omega) _ _ _ _).st0 (two_ne (by omega) (by omega)) (by omega) _ _ _ _).o89 (by omega) (by omega) (by omega)
theorem pw_fin6 (q : Qs w w2 [(K + 1, b2, B2, m2, d2), (K, b1, A1, n1, c1), (w.heap.size + 1 + 1, false, none, 0, 0)] (.agg #[.bool s2, .slice A2 n2 c2]) (.agg #[.bool s, .slice A n c]) p a) (hN : w.heap.size + 1 + 1 < K) (hl : K + 1 + 1 ≤ w2.heap.size) :
    PwS w ((((w2.setCell ⟨(K + 1), 0, none⟩ (.bool s)).setCell ⟨(K + 1), 1, none⟩ (.slice A n c)).setCell ⟨K, 0, none⟩ (.bool s2)).setCell ⟨K, 1, none⟩ (.slice A2 n2 c2)) K (K + 1) p a :=
  ((q.st0 (two_ne (by omega) (by omega)) (by omega) _ _ _ _).st1 (by simp) (one_ne (by omega)) (by omega) _ _ _ _).o89 (by omega) (by omega) (by omega)
theorem pw_fin7 (q : Qs w w2 [(K + 1, s, A, n, c), (K, b1, A1, n1, c1), (w.heap.size + 1 + 1, false, none, 0, 0)] (.agg #[.bool s2, .slice A2 n2 c2]) (.agg #[.bool s, .slice A n c]) p a) (hN : w.heap.size + 1 + 1 < K) (hl : K + 1 + 1 ≤ w2.heap.size) :
    PwS w ((w2.setCell ⟨K, 0, none⟩ (.bool s2)).setCell ⟨K, 1, none⟩ (.slice A2 n2 c2)) K (K + 1) p a :=
  (q.st1 (by simp) (one_ne (by omega)) (by omega) _ _ _ _).o89 (by omega) (by omega) (by omega)
theorem pw_fin8 (q : Qs w w2 [(K + 1, b2, B2, m2, d2), (K, b1, A1, n1, c1), (w.heap.size + 1 + 1, false, none, 0, 0)] (.agg #[.bool s2, .slice A2 n2 c2]) (.agg #[.bool s, .slice A n c]) p a) (hN : w.heap.size + 1 + 1 < K) (hl : K + 1 + 1 ≤ w2.heap.size) :
    PwS w ((((w2.setCell ⟨(K + 1), 0, none⟩ (.bool s2)).setCell ⟨(K + 1), 1, none⟩ (.slice A2 n2 c2)).setCell ⟨K, 0, none⟩ (.bool s)).setCell ⟨K, 1, none⟩ (.slice A n c)) (K + 1) K p a :=
  ((q.st0 (two_ne (by omega) (by omega)) (by omega) _ _ _ _).st1 (by simp) (one_ne (by omega)) (by omega) _ _ _ _).o98 (by omega) (by omega) (by omega)
theorem pw_fin9 (q : Qs w w2 [(K + 1, b2, B2, m2, d2), (K, b1, A1, n1, c1), (w.heap.size + 1 + 1, false, none, 0, 0)] (.agg #[.bool s2, .slice A2 n2 c2]) (.agg #[.bool s, .slice A n c]) p a) (hN : w.heap.size + 1 + 1 < K) (hl : K + 1 + 1 ≤ w2.heap.size) :
    PwS w ((((w2.setCell ⟨K, 0, none⟩ (.bool s)).setCell ⟨K, 1, none⟩ (.slice A n c)).setCell ⟨(K + 1), 0, none⟩ (.bool s2)).setCell ⟨(K + 1), 1, none⟩ (.slice A2 n2 c2)) (K + 1) K p a :=
  ((q.st1 (by simp) (one_ne (by omega)) (by omega) _ _ _ _).st0 (two_ne (by omega) (by omega)) (by omega) _ _ _ _).o98 (by omega) (by omega) (by omega)
theorem pw_fin10 (q : Qs w w2 [(K + 1, b2, B2, m2, d2), (K, s, A, n, c), (w.heap.size + 1 + 1, false, none, 0, 0)] (.agg #[.bool s2, .slice A2 n2 c2]) (.agg #[.bool s, .slice A n c]) p a) (hN : w.heap.size + 1 + 1 < K) (hl : K + 1 + 1 ≤ w2.heap.size) :
    PwS w ((w2.setCell ⟨(K + 1), 0, none⟩ (.bool s2)).setCell ⟨(K + 1), 1, none⟩ (.slice A2 n2 c2)) (K + 1) K p a :=
  (q.st0 (two_ne (by omega) (by omega)) (by omega) _ _ _ _).o98 (by omega) (by omega) (by omega)
end


end LM
end Go.Proofs.YtpnjddfnlaonoaaGreatDoor

namespace Go.Proofs.YtpnjddfnlaonoaaGreatDoor
open Go Go.RowKit
namespace LM
set_option linter.unusedVariables false

/-- a number's block -/
def Nx (w : World) (g : Nat) (fl : Bool) (f : Nat) (s : Bool) (A : Option Addr) (n c : Nat) : Prop := w.heap[g]? = some (.cells #[.bool fl, .float .f64 f, .bool s, .slice A n c] 38 (0, 0))
section
variable {w w' w2 : World} {g B : Nat} {fl : Bool} {f : Nat} {s : Bool} {A : Option Addr} {n c : Nat}
theorem Nx.lt (h : Nx w g fl f s A n c) : g < w.heap.size := by
  rcases Nat.lt_or_ge g w.heap.size with hlt | hge
  · exact hlt
  · unfold Nx at h; rw [Array.getElem?_eq_none hge] at h; cases h
theorem Nx.facts (h : Nx w g fl f s A n c) :
    w.cell? ⟨g, 0, none⟩ = some (.bool fl) ∧ w.cell? ⟨g, 1, none⟩ = some (.float .f64 f) ∧ w.cell? ⟨g, 2, none⟩ = some (.bool s) ∧ w.cell? ⟨g, 3, none⟩ = some (.slice A n c) ∧
    w.frozen? ⟨g, 0, none⟩ = false ∧ w.frozen? ⟨g, 1, none⟩ = false ∧ w.frozen? ⟨g, 2, none⟩ = false ∧ w.frozen? ⟨g, 3, none⟩ = false ∧ g < w.heap.size := by
  have hl := h.lt
  unfold Nx at h
  exact ⟨by simp [World.cell?, h], by simp [World.cell?, h], by simp [World.cell?, h], by simp [World.cell?, h], by simp [World.frozen?, h], by simp [World.frozen?, h], by simp [World.frozen?, h], by simp [World.frozen?, h], hl⟩
theorem Nx.keep (h : Nx w g fl f s A n c) (hb : Below B w w') (hg : g < B) : Nx w' g fl f s A n c := (hb.block _ hg).trans h
theorem Nx.below (h : Nx w g fl f s A n c) (hb : Below w.heap.size w w') : Nx w' g fl f s A n c := h.keep hb h.lt
theorem Nx.new (w : World) (fl : Bool) (f : Nat) (s : Bool) (A : Option Addr) (n c : Nat) : Nx (w.alloc (.cells #[.bool fl, .float .f64 f, .bool s, .slice A n c] 38)) w.heap.size fl f s A n c := by
  unfold Nx World.alloc
  simp
theorem Nx.alloc (h : Nx w g fl f s A n c) (o : Obj) : Nx (w.alloc o) g fl f s A n c := (Below.heap_alloc w o _ h.lt).trans h
theorem Nx.drew (h : Nx w g fl f s A n c) : Nx w.drew g fl f s A n c := h
theorem Nx.drewN (h : Nx w g fl f s A n c) (k : Nat) : Nx (w.drewN k) g fl f s A n c := h
theorem Nx.set (h : Nx w g fl f s A n c) {p : Addr} (v : Value) (hp : g ≠ p.block) : Nx (w.setCell p v) g fl f s A n c := (heap_setCell_other w p g v hp).trans h
theorem Nx.stored (h : Nx w g fl f s A n c) (fl' : Bool) (f' : Nat) (s' : Bool) (A' : Option Addr) (n' c' : Nat) :
    Nx ((((w.setCell ⟨g, 0, none⟩ (.bool fl')).setCell ⟨g, 1, none⟩ (.float .f64 f')).setCell ⟨g, 2, none⟩ (.bool s')).setCell ⟨g, 3, none⟩ (.slice A' n' c')) g fl' f' s' A' n' c' := by
  have h1 := heap_setCell_same w g 0 _ _ (.bool fl') h
  have h2 := heap_setCell_same _ g 1 _ _ (.float .f64 f') h1
  have h3 := heap_setCell_same _ g 2 _ _ (.bool s') h2
  have h4 := heap_setCell_same _ g 3 _ _ (.slice A' n' c') h3
  exact h4.trans rfl
theorem Rd.offNx {A' : Option Addr} {xs : List Nat} (h : Rd w A' xs) (hb : Nx w g fl f s A n c) (hx : 0 < xs.length) : Off A' g := by
  intro ad e e2
  obtain ⟨k, off, e3, hlt, hc⟩ := h hx
  rw [e3] at e
  injection e with e
  subst e
  obtain rfl : k = g := e2
  have h0 := hc 0 hx
  unfold Nx at hb
  simp only [World.cell?, hb] at h0
  have : off = 0 ∨ off = 1 ∨ off = 2 ∨ off = 3 ∨ 4 ≤ off := by omega
  rcases this with rfl | rfl | rfl | rfl | h2
  · simp at h0
  · simp at h0
  · simp at h0
  · simp at h0
  · rw [Array.getElem?_eq_none (by simp; omega)] at h0
    simp at h0
/-- four cells of a number's block are stored -/
abbrev set4 (w : World) (g : Nat) (a b d e : Value) : World := (((w.setCell ⟨g, 0, none⟩ a).setCell ⟨g, 1, none⟩ b).setCell ⟨g, 2, none⟩ d).setCell ⟨g, 3, none⟩ e
theorem Rd.stored4 {A' : Option Addr} {xs : List Nat} (h : Rd w A' xs) (hb : Nx w g fl f s A n c) (a b d e : Value) : Rd (set4 w g a b d e) A' xs := fun hx =>
  ((((h.setCell (p := ⟨g, 0, none⟩) (h.offNx hb hx) a).setCell (p := ⟨g, 1, none⟩) (h.offNx hb hx) b).setCell (p := ⟨g, 2, none⟩) (h.offNx hb hx) d).setCell (p := ⟨g, 3, none⟩) (h.offNx hb hx) e) hx
theorem IntV.stored4 {v : Value} {z : Int} (h : IntV w v z) (hb : Nx w g fl f s A n c) (a b d e : Value) : IntV (set4 w g a b d e) v z := by
  obtain ⟨A, c, r, e, h1, h2, h3, h4, h5⟩ := h
  exact ⟨A, c, r, e, h1, h2, h3.stored4 hb _ _ _ _, h4, h5⟩
theorem IntR.stored4 {v : Value} {z : Int} (h : IntR w v z) (hb : Nx w g fl f s A n c) (a b d e : Value) : IntR (set4 w g a b d e) v z := by
  obtain ⟨A, c, r, e, h3, h4, h5⟩ := h
  exact ⟨A, c, r, e, h3.stored4 hb _ _ _ _, h4, h5⟩
theorem below_stored4 (h : Below B w w2) (hg : B ≤ g) (a b d e : Value) : Below B w (set4 w2 g a b d e) :=
  (((h.setCell (p := ⟨g, 0, none⟩) hg a).setCell (p := ⟨g, 1, none⟩) hg b).setCell (p := ⟨g, 2, none⟩) hg d).setCell (p := ⟨g, 3, none⟩) hg e
/-- the world behind a store into a number's variable, under a name of its own -/
theorem stored_num (Y : Nx w2 g fl f s A n c) (hb : Below B w w2) (hg : B ≤ g) (fl' : Bool) (f' : Nat) (s' : Bool) (A' : Option Addr) (n' c' : Nat) :
    ∃ W, (((w2.setCell ⟨g, 0, none⟩ (.bool fl')).setCell ⟨g, 1, none⟩ (.float .f64 f')).setCell ⟨g, 2, none⟩ (.bool s')).setCell ⟨g, 3, none⟩ (.slice A' n' c') = W ∧ Nx W g fl' f' s' A' n' c' ∧ Below B w W ∧ (∀ v z, IntV w2 v z → IntV W v z) ∧ (∀ v z, IntR w2 v z → IntR W v z) :=
  ⟨_, rfl, Y.stored _ _ _ _ _ _, below_stored4 hb hg _ _ _ _, fun _ _ h => h.stored4 Y _ _ _ _, fun _ _ h => h.stored4 Y _ _ _ _⟩
end

theorem run_store_flt (P : Program) (w : World) (a : Addr) (m : Mode) (k : FloatKind) (b : Nat) : (store a (.float k b) m).run P w = stored P w a (.float k b) m := run_store P w a _ m rfl
attribute [local go_sem] run_store_flt

/-- what comes out of a call that gives an exact number -/
def RetN (w : World) (z : Int) (e : Ending) (w' : World) : Prop := ∃ s A n c, e = .returned (.agg #[.bool false, .float .f64 0, .bool s, .slice A n c]) ∧ IntV w' (.agg #[.bool s, .slice A n c]) z ∧ Below w.heap.size w w'

set_option maxRecDepth 100000 in
set_option maxHeartbeats 2000000 in
theorem twhole_any (s : Bool) (A : Option Addr) (n c : Nat) (w : World) :
    Calls Tryz.prog 63 #[.agg #[.bool s, .slice A n c]] w fun e w' => e = .returned (.agg #[.bool false, .float .f64 0, .bool s, .slice A n c]) ∧ Below w.heap.size w w' ∧ (∀ v z, IntV w v z → IntV w' v z) := by
  go_enter Tryz.func63, Tryz.ntmps63
  go_wp2_with (fail)
  refine bodyPost_ret (v := .agg #[.bool false, .float .f64 0, .bool s, .slice A n c]) (by simp [results, Tryz.results63, go_sem]) rfl ?_
  exact ⟨rfl, ((Below.refl _ w).alloc (Nat.le_refl _) _).alloc (by simp) _, fun v z h => (h.alloc _).alloc _⟩

end LM
end Go.Proofs.YtpnjddfnlaonoaaGreatDoor

namespace Go.Proofs.YtpnjddfnlaonoaaGreatDoor
open Go Go.RowKit
namespace LM
set_option linter.unusedVariables false
attribute [local go_sem] run_store_flt

set_option maxRecDepth 100000 in
set_option maxHeartbeats 2000000 in
theorem tint_any (z : Int) (h1 : -9223372036854775808 ≤ z) (h2 : z ≤ 9223372036854775807) (w : World) :
    Calls Tryz.prog 56 #[.int .i64 z] w (RetN w z) := by
  have hb0 : Below w.heap.size w (w.alloc (.cells #[.bool false, .float .f64 0, .bool false, .slice none 0 0] 38)) := (Below.refl _ w).alloc (Nat.le_refl _) _
  have Y0 := Lib.hid (Nx.new w false 0 false none 0 0)
  have HB0 := Lib.hid hb0
  have E1 := Lib.hid fun W => eof_int z h1 h2 W
  have W1 := Lib.hid twhole_any
  clear hb0
  go_enter Tryz.func56, Tryz.ntmps56
  go_wp2_with (fail)
  refine (E1.out _).mono ?_
  intro e w1 hr
  obtain ⟨s1, A1, n1, c1, rfl, hv1, hb1⟩ := hr.gen
  have Y1 := Lib.hid (Y0.out.below hb1)
  have HB1 := Lib.hid (bel_trans (B := w.heap.size) HB0.out hb1)
  have HV1 := Lib.hid hv1
  clear hr hb1 hv1
  go_wp2_with (fail)
  refine (W1.out _ _ _ _ _).mono ?_
  rintro e w2 ⟨rfl, hb2, hv2⟩
  have Y2 := Y1.out.below hb2
  have hbk := bel_trans (B := w.heap.size) HB1.out hb2
  obtain ⟨W, hW, ZR, hbW, hvW, -⟩ := stored_num Y2 hbk (by omega) false 0 s1 A1 n1 c1
  obtain ⟨z0, z1, z2, z3, -, -, -, -, zl⟩ := ZR.facts
  obtain ⟨y0, y1, y2, y3, y4, y5, y6, y7, yl⟩ := Y2.facts
  have HBW := Lib.hid hbW
  have HVW := Lib.hid (hvW _ _ (hv2 _ _ HV1.out))
  clear hb2 hv2 hbk hbW hvW ZR Y2
  go_wp2_with (fail)
  first | rw [hW] | skip
  refine bodyPost_ret (v := .agg #[.bool false, .float .f64 0, .bool s1, .slice A1 n1 c1]) (by simp [results, Tryz.results56, go_sem, z0, z1, z2, z3]) rfl ?_
  exact ⟨s1, A1, n1, c1, rfl, HVW.out, HBW.out⟩

set_option maxRecDepth 100000 in
set_option maxHeartbeats 2000000 in
theorem tflo_any (f : Nat) (w : World) :
    Calls Tryz.prog 57 #[.float .f64 f] w fun e w' => e = .returned (.agg #[.bool true, .float .f64 f, .bool false, .slice none 0 0]) ∧ Below w.heap.size w w' := by
  go_enter Tryz.func57, Tryz.ntmps57
  go_wp2_with (fail)
  refine bodyPost_ret (v := .agg #[.bool true, .float .f64 f, .bool false, .slice none 0 0]) (by simp [results, Tryz.results57, go_sem]) rfl ?_
  exact ⟨rfl, (Below.refl _ w).alloc (Nat.le_refl _) _⟩

set_option maxRecDepth 100000 in
set_option maxHeartbeats 2000000 in
theorem tnothing_any (s : Bool) (A : Option Addr) (n c : Nat) (w : World) :
    Calls Tryz.prog 105 #[.agg #[.bool s, .slice A n c]] w fun e w' => e = .returned (.bool (decide (n = 0))) ∧ Below w.heap.size w w' := by
  have X0 := Bx.new w s A n c
  have hb0 : Below w.heap.size w (w.alloc (.cells #[.bool s, .slice A n c] 36)) := (Below.refl _ w).alloc (Nat.le_refl _) _
  obtain ⟨q0, q1, -, -, ql⟩ := X0.facts
  have HB0 := Lib.hid hb0
  have hd : ((n : Int) == 0) = decide (n = 0) := by
    rw [Bool.eq_iff_iff, beq_iff_eq, decide_eq_true_iff]; omega
  clear hb0 X0
  go_enter Tryz.func105, Tryz.ntmps105
  go_wp2_with (fail)
  go_ret
  exact ⟨rfl, HB0.out⟩

set_option maxRecDepth 100000 in
set_option maxHeartbeats 2000000 in
/-- of a floating one -/
theorem tfloating_f (f : Nat) (s : Bool) (A : Option Addr) (n c : Nat) (w : World) :
    Calls Tryz.prog 107 #[.agg #[.bool true, .float .f64 f, .bool s, .slice A n c]] w fun e w' => e = .returned (.float .f64 f) ∧ Below w.heap.size w w' := by
  have Y0 := Nx.new w true f s A n c
  have hb0 : Below w.heap.size w (w.alloc (.cells #[.bool true, .float .f64 f, .bool s, .slice A n c] 38)) := (Below.refl _ w).alloc (Nat.le_refl _) _
  obtain ⟨y0, y1, y2, y3, -, -, -, -, yl⟩ := Y0.facts
  have HB0 := Lib.hid hb0
  clear hb0 Y0
  go_enter Tryz.func107, Tryz.ntmps107
  go_wp2_with (fail)
  go_ret
  exact ⟨rfl, HB0.out⟩

set_option maxRecDepth 100000 in
set_option maxHeartbeats 2000000 in
/-- of an exact one -/
theorem tfloating_i (f f0 : Nat) (s : Bool) (A : Option Addr) (n c : Nat) (w : World)
    (hO : ∀ W, Below w.heap.size w W → Calls Tryz.prog 41 #[.agg #[.bool s, .slice A n c]] W fun e w' => e = .returned (.float .f64 f) ∧ Below W.heap.size W w') :
    Calls Tryz.prog 107 #[.agg #[.bool false, .float .f64 f0, .bool s, .slice A n c]] w fun e w' => e = .returned (.float .f64 f) ∧ Below w.heap.size w w' := by
  have Y0 := Nx.new w false f0 s A n c
  have hb0 : Below w.heap.size w (w.alloc (.cells #[.bool false, .float .f64 f0, .bool s, .slice A n c] 38)) := (Below.refl _ w).alloc (Nat.le_refl _) _
  obtain ⟨y0, y1, y2, y3, -, -, -, -, yl⟩ := Y0.facts
  have HB0 := Lib.hid hb0
  have HO := Lib.hid (hO _ hb0)
  clear hb0 Y0 hO
  go_enter Tryz.func107, Tryz.ntmps107
  go_wp2_with (fail)
  refine HO.out.mono ?_
  rintro e w1 ⟨rfl, hb1⟩
  go_wp2_with (fail)
  go_ret
  exact ⟨rfl, bel_trans (B := w.heap.size) HB0.out hb1⟩

end LM
end Go.Proofs.YtpnjddfnlaonoaaGreatDoor

namespace Go.Proofs.YtpnjddfnlaonoaaGreatDoor
open Go Go.RowKit
namespace LM
set_option linter.unusedVariables false
attribute [local go_sem] run_store_flt

/-- blocks that are known -/
def Obs (w : World) (L : List (Nat × Obj)) : Prop := ∀ q ∈ L, w.heap[q.1]? = some q.2
section
variable {w w' : World} {L : List (Nat × Obj)} {g : Nat} {o : Obj}
theorem Obs.nil : Obs w [] := fun q hq => by cases hq
theorem Obs.cons (h : w.heap[g]? = some o) (hs : Obs w L) : Obs w ((g, o) :: L) := fun q hq => by
  rcases List.mem_cons.1 hq with rfl | hq
  · exact h
  · exact hs q hq
theorem Obs.hd (h : Obs w ((g, o) :: L)) : w.heap[g]? = some o := h _ (List.mem_cons_self ..)
theorem Obs.tl {p : Nat × Obj} (h : Obs w (p :: L)) : Obs w L := fun q hq => h q (List.mem_cons_of_mem _ hq)
theorem Obs.below (h : Obs w L) (hb : Below w.heap.size w w') : Obs w' L := fun q hq => by
  have h1 := h q hq
  refine (hb.block q.1 ?_).trans h1
  rcases Nat.lt_or_ge q.1 w.heap.size with h2 | h2
  · exact h2
  · rw [Array.getElem?_eq_none h2] at h1; cases h1
theorem Obs.alloc (h : Obs w L) (x : Obj) : Obs (w.alloc x) L := fun q hq => by
  have h1 := h q hq
  refine (Below.heap_alloc w x _ ?_).trans h1
  rcases Nat.lt_or_ge q.1 w.heap.size with h2 | h2
  · exact h2
  · rw [Array.getElem?_eq_none h2] at h1; cases h1
theorem Obs.drew (h : Obs w L) : Obs w.drew L := h
theorem Obs.new (h : Obs w L) (x : Obj) : Obs (w.alloc x) ((w.heap.size, x) :: L) := Obs.cons (by unfold World.alloc; simp) (h.alloc x)
end
theorem Obs.set4 {w : World} {L : List (Nat × Obj)} {g : Nat} (h : Obs w L) (hg : ∀ q ∈ L, q.1 ≠ g) (a b d e : Value) : Obs (set4 w g a b d e) L := fun q hq =>
  (heap_setCell_other _ ⟨g, 3, none⟩ q.1 e (hg q hq)).trans ((heap_setCell_other _ ⟨g, 2, none⟩ q.1 d (hg q hq)).trans ((heap_setCell_other _ ⟨g, 1, none⟩ q.1 b (hg q hq)).trans ((heap_setCell_other w ⟨g, 0, none⟩ q.1 a (hg q hq)).trans (h q hq))))
theorem ob_cell {w : World} {g : Nat} {cs : Array Value} {T : TypeId} (h : w.heap[g]? = some (.cells cs T (0, 0))) (i : Nat) : w.cell? ⟨g, i, none⟩ = cs[i]? := by
  simp [World.cell?, h]
abbrev numO (fl : Bool) (f : Nat) (s : Bool) (A : Option Addr) (n c : Nat) : Obj := .cells #[.bool fl, .float .f64 f, .bool s, .slice A n c] 38 (0, 0)
abbrev numA (fl : Bool) (f : Nat) (s : Bool) (A : Option Addr) (n c : Nat) : Value := .agg #[.bool fl, .float .f64 f, .bool s, .slice A n c]

set_option maxRecDepth 100000 in
theorem tadd1_any (a b r : Nat) (w : World) (h : floatBits .add .f64 a b = some r) :
    Calls Tryz.prog 103 #[.float .f64 a, .float .f64 b] w fun e w' => e = .returned (.float .f64 r) ∧ w = w' := by
  have hop : ∀ t W, (binOp .add t (.float .f64 a) (.float .f64 b)).run Tryz.prog W = .ok (.float .f64 r) W := fun t W => run_float_arith W .add t .f64 _ _ _ h
  go_enter Tryz.func103, Tryz.ntmps103
  go_wp2
  go_ret
  exact ⟨rfl, rfl⟩

set_option maxRecDepth 100000 in
set_option maxHeartbeats 4000000 in
theorem tof_two (f0 f fa fb r : Nat) (s : Bool) (A : Option Addr) (n c : Nat) (s' : Bool) (A' : Option Addr) (n' c' : Nat) (w : World)
    (hO : ∀ W, Below w.heap.size w W → Calls Tryz.prog 41 #[.agg #[.bool s, .slice A n c]] W fun e w' => e = .returned (.float .f64 fa) ∧ Below W.heap.size W w')
    (hr : floatBits .add .f64 fa fb = some r) :
    Calls Tryz.prog 104 #[.agg #[.func (.func 102) #[] #[], .func (.func 103) #[] #[]], numA false f0 s A n c, numA true fb s' A' n' c'] w fun e w' =>
      e = .returned (.tuple #[numA true r false none 0 0, .int .i64 0]) ∧ Below w.heap.size w w' := by
  have FA := Lib.hid fun W (h : Below w.heap.size w W) => tfloating_i fa f0 s A n c W fun W' h' => hO W' (bel_trans (B := w.heap.size) h h')
  have FB := Lib.hid fun W => tfloating_f fb s' A' n' c' W
  have A1 := Lib.hid fun W => tadd1_any fa fb r W hr
  have F1 := Lib.hid tflo_any
  clear hO hr
  go_enter Tryz.func104, Tryz.ntmps104
  go_wp2_with (fail)
  generalize hW0 : ((((w.alloc (.cells #[.func (.func 102) #[] #[], .func (.func 103) #[] #[]] 115)).alloc (numO false f0 s A n c)).alloc (numO true fb s' A' n' c')).alloc (numO false 0 false none 0 0)) = W0
  have hO : Obs W0 [(w.heap.size + 1 + 1 + 1, numO false 0 false none 0 0), (w.heap.size + 1 + 1, numO true fb s' A' n' c'), (w.heap.size + 1, numO false f0 s A n c), (w.heap.size, .cells #[.func (.func 102) #[] #[], .func (.func 103) #[] #[]] 115 (0, 0))] := by
    rw [← hW0]
    have h := (((Obs.nil.new (w := w) (.cells #[.func (.func 102) #[] #[], .func (.func 103) #[] #[]] 115)).new (numO false f0 s A n c)).new (numO true fb s' A' n' c')).new (numO false 0 false none 0 0)
    simp only [World.size_alloc] at h
    exact h
  have hb0 : Below w.heap.size w W0 := by
    rw [← hW0]
    exact ((((Below.refl _ w).alloc (Nat.le_refl _) _).alloc (by simp) _).alloc (by simp; omega) _).alloc (by simp; omega) _
  have XS0 := Lib.hid hO.tl.drew
  have Y0 : Hid (Nx W0.drew (w.heap.size + 1 + 1 + 1) false 0 false none 0 0) := Lib.hid hO.hd
  have HB0 := Lib.hid hb0.drew
  have KS : Hid (∀ W, Obs W [(w.heap.size + 1 + 1, numO true fb s' A' n' c'), (w.heap.size + 1, numO false f0 s A n c), (w.heap.size, .cells #[.func (.func 102) #[] #[], .func (.func 103) #[] #[]] 115 (0, 0))] →
      W.cell? ⟨w.heap.size, 1, none⟩ = some (.func (.func 103) #[] #[]) ∧
      W.cell? ⟨w.heap.size + 1, 0, none⟩ = some (.bool false) ∧ W.cell? ⟨w.heap.size + 1, 1, none⟩ = some (.float .f64 f0) ∧ W.cell? ⟨w.heap.size + 1, 2, none⟩ = some (.bool s) ∧ W.cell? ⟨w.heap.size + 1, 3, none⟩ = some (.slice A n c) ∧
      W.cell? ⟨w.heap.size + 1 + 1, 0, none⟩ = some (.bool true) ∧ W.cell? ⟨w.heap.size + 1 + 1, 1, none⟩ = some (.float .f64 fb) ∧ W.cell? ⟨w.heap.size + 1 + 1, 2, none⟩ = some (.bool s') ∧ W.cell? ⟨w.heap.size + 1 + 1, 3, none⟩ = some (.slice A' n' c')) := Lib.hid fun W h => by
    have h1 := ob_cell h.hd
    have h2 := ob_cell h.tl.hd
    have h3 := ob_cell h.tl.tl.hd
    exact ⟨h3 1, h2 0, h2 1, h2 2, h2 3, h1 0, h1 1, h1 2, h1 3⟩
  have hne : ∀ q ∈ ([(w.heap.size + 1 + 1, numO true fb s' A' n' c'), (w.heap.size + 1, numO false f0 s A n c), (w.heap.size, .cells #[.func (.func 102) #[] #[], .func (.func 103) #[] #[]] 115 (0, 0))] : List (Nat × Obj)), q.1 ≠ w.heap.size + 1 + 1 + 1 := by
    intro q hq
    simp only [List.mem_cons, List.not_mem_nil, or_false] at hq
    rcases hq with rfl | rfl | rfl <;> simp <;> omega
  have HNE := Lib.hid hne
  have D1 := Lib.hid (FA.out _ hb0.drew)
  clear hO hb0 hW0 hne
  go_region_held3 (fun W => W.cell? ⟨w.heap.size, 1, none⟩ = some (.func (.func 103) #[] #[]) ∧
      W.cell? ⟨w.heap.size + 1, 0, none⟩ = some (.bool false) ∧ W.cell? ⟨w.heap.size + 1, 1, none⟩ = some (.float .f64 f0) ∧ W.cell? ⟨w.heap.size + 1, 2, none⟩ = some (.bool s) ∧ W.cell? ⟨w.heap.size + 1, 3, none⟩ = some (.slice A n c) ∧
      W.cell? ⟨w.heap.size + 1 + 1, 0, none⟩ = some (.bool true) ∧ W.cell? ⟨w.heap.size + 1 + 1, 1, none⟩ = some (.float .f64 fb) ∧ W.cell? ⟨w.heap.size + 1 + 1, 2, none⟩ = some (.bool s') ∧ W.cell? ⟨w.heap.size + 1 + 1, 3, none⟩ = some (.slice A' n' c'))
    ((exact KS.out _ (Hid.out (by assumption))))
    (first
      | (go_at_call 107; (with_reducible refine D1.out.mono ?_); rintro e v1 ⟨rfl, hbz⟩; have XS1 := Lib.hid (XS0.out.below hbz); have Y1 := Lib.hid (Y0.out.below hbz); have HB1 := Lib.hid (bel_trans (B := w.heap.size) HB0.out hbz); clear hbz)
      | (go_at_call 107; (with_reducible refine (FB.out _).mono ?_); rintro e v2 ⟨rfl, hbz⟩; have XS2 := Lib.hid (XS1.out.below hbz); have Y2 := Lib.hid (Y1.out.below hbz); have HB2 := Lib.hid (bel_trans (B := w.heap.size) HB1.out hbz); clear hbz)
      | (go_at_call 103; (with_reducible refine (A1.out _).mono ?_); rintro e v3 ⟨rfl, rfl⟩)
      | (go_at_call 57; (with_reducible refine (F1.out _ _).mono ?_); rintro e v4 ⟨rfl, hbz⟩; have XS4 := Lib.hid (XS2.out.below hbz); have Y4 := Lib.hid (Y2.out.below hbz); have HB4 := Lib.hid (bel_trans (B := w.heap.size) HB2.out hbz); have XS5 := Lib.hid (XS4.out.set4 HNE.out (.bool true) (.float .f64 r) (.bool false) (.slice none 0 0)); obtain ⟨y0, y1, y2, y3, y4, y5, y6, y7, yl⟩ := Y4.out.facts; clear hbz))
  all_goals
    obtain ⟨W, hW, ZR, hbW, hvW, -⟩ := stored_num Y4.out HB4.out (by omega) true r false none 0 0
    obtain ⟨z0, z1, z2, z3, -, -, -, -, zl⟩ := ZR.facts
    have HBW := Lib.hid hbW
    clear hbW hvW ZR
    go_wp2
    first | rw [hW] | skip
    refine bodyPost_ret (v := .tuple #[numA true r false none 0 0, .int .i64 0]) (by simp [results, Tryz.results104, go_sem, z0, z1, z2, z3]) rfl ?_
    exact ⟨rfl, HBW.out⟩

end LM
end Go.Proofs.YtpnjddfnlaonoaaGreatDoor

namespace Go.Proofs.YtpnjddfnlaonoaaGreatDoor
open Go Go.RowKit
namespace LM
set_option linter.unusedVariables false
attribute [local go_sem] run_store_flt

set_option maxRecDepth 100000 in
set_option maxHeartbeats 4000000 in
theorem tadd_if (f0 fa fb r : Nat) (s : Bool) (A : Option Addr) (n c : Nat) (s' : Bool) (A' : Option Addr) (n' c' : Nat) (w : World)
    (hO : ∀ W, Below w.heap.size w W → Calls Tryz.prog 41 #[.agg #[.bool s, .slice A n c]] W fun e w' => e = .returned (.float .f64 fa) ∧ Below W.heap.size W w')
    (hr : floatBits .add .f64 fa fb = some r) :
    Calls Tryz.prog 55 #[numA false f0 s A n c, numA true fb s' A' n' c'] w fun e w' =>
      e = .returned (.tuple #[numA true r false none 0 0, .int .i64 0]) ∧ Below w.heap.size w w' := by
  have C1 := Lib.hid fun W (h : Below w.heap.size w W) => tof_two f0 0 fa fb r s A n c s' A' n' c' W (fun W' h' => hO W' (bel_trans (B := w.heap.size) h h')) hr
  clear hO hr
  go_enter Tryz.func55, Tryz.ntmps55
  go_wp2_with (fail)
  generalize hW0 : (((w.alloc (numO false f0 s A n c)).alloc (numO true fb s' A' n' c')).alloc (numO false 0 false none 0 0)) = W0
  have hb0 : Below w.heap.size w W0 := by
    rw [← hW0]
    exact (((Below.refl _ w).alloc (Nat.le_refl _) _).alloc (by simp) _).alloc (by simp; omega) _
  have hy0 : Nx W0 (w.heap.size + 1 + 1) false 0 false none 0 0 := by
    rw [← hW0]
    have h := Nx.new ((w.alloc (numO false f0 s A n c)).alloc (numO true fb s' A' n' c')) false 0 false none 0 0
    simp only [World.size_alloc] at h
    exact h
  have Y0 := Lib.hid hy0
  have HB0 := Lib.hid hb0
  clear hW0 hb0 hy0
  refine (C1.out _ HB0.out).mono ?_
  rintro e w1 ⟨rfl, hb1⟩
  have Y1 := Y0.out.below hb1
  obtain ⟨W, hW, ZR, hbW, hvW, -⟩ := stored_num Y1 (bel_trans (B := w.heap.size) HB0.out hb1) (by omega) true r false none 0 0
  obtain ⟨z0, z1, z2, z3, -, -, -, -, zl⟩ := ZR.facts
  obtain ⟨y0, y1, y2, y3, y4, y5, y6, y7, yl⟩ := Y1.facts
  have HBW := Lib.hid hbW
  clear hbW hvW ZR Y1 hb1
  go_wp2_with (fail)
  first | rw [hW] | skip
  refine bodyPost_ret (v := .tuple #[numA true r false none 0 0, .int .i64 0]) (by simp [results, Tryz.results55, go_sem, z0, z1, z2, z3]) rfl ?_
  exact ⟨rfl, HBW.out⟩

/-- two numbers' blocks, and a result's -/
theorem three_num (w : World) (fl : Bool) (f : Nat) (s : Bool) (A : Option Addr) (n c : Nat) (fl' : Bool) (f' : Nat) (s' : Bool) (A' : Option Addr) (n' c' : Nat) :
    ∃ W, ((w.alloc (numO fl f s A n c)).alloc (numO fl' f' s' A' n' c')).alloc (numO false 0 false none 0 0) = W ∧ Below w.heap.size w W ∧
      Obs W [(w.heap.size + 1 + 1, numO false 0 false none 0 0), (w.heap.size + 1, numO fl' f' s' A' n' c'), (w.heap.size, numO fl f s A n c)] := by
  refine ⟨_, rfl, (((Below.refl _ w).alloc (Nat.le_refl _) _).alloc (by simp) _).alloc (by simp; omega) _, ?_⟩
  have h := ((Obs.nil.new (w := w) (numO fl f s A n c)).new (numO fl' f' s' A' n' c')).new (numO false 0 false none 0 0)
  simp only [World.size_alloc] at h
  exact h
theorem Obs.nx0 {w : World} {g : Nat} {fl : Bool} {f : Nat} {s : Bool} {A : Option Addr} {n c : Nat} {L : List (Nat × Obj)} (h : Obs w ((g, numO fl f s A n c) :: L)) : Nx w g fl f s A n c := h.hd

set_option maxRecDepth 100000 in
set_option maxHeartbeats 4000000 in
/-- of two exact ones, where nothing is left -/
theorem tdiv_whole (f f0 : Nat) (s : Bool) (A : Option Addr) (n c : Nat) (s' : Bool) (A' : Option Addr) (n' c' : Nat) (x y : Int) (w : World) (hx : IntV w (.agg #[.bool s, .slice A n c]) x) (hy : IntV w (.agg #[.bool s', .slice A' n' c']) y)
    (nx : ¬ BigI x) (ny : ¬ BigI y) (hy0 : y ≠ 0) (hr : remI x y = 0) :
    Calls Tryz.prog 58 #[numA false f s A n c, numA false f0 s' A' n' c'] w fun e w' =>
      ∃ s1 A1 n1 c1, e = .returned (.tuple #[numA false 0 s1 A1 n1 c1, .int .i64 0]) ∧ IntV w' (.agg #[.bool s1, .slice A1 n1 c1]) (quoI x y) ∧ Below w.heap.size w w' := by
  have N1 := Lib.hid tnothing_any
  have W1 := Lib.hid twhole_any
  have hn0 : n' ≠ 0 := fun h => hy0 (hy.parts.2.1.1 h)
  have d1 : decide (n' = 0) = false := decide_eq_false hn0
  have HX := Lib.hid hx
  have HY := Lib.hid hy
  have NX := Lib.hid nx
  have NY := Lib.hid ny
  have HY0 := Lib.hid hy0
  have HR := Lib.hid hr
  obtain ⟨W0, hW0, hb0, hO⟩ := three_num w false f s A n c false f0 s' A' n' c'
  have O0 := Lib.hid hO
  have HB0 := Lib.hid hb0
  have HW0 := Lib.hid hW0
  clear hx hy nx ny hy0 hr hO hb0 hW0
  go_enter Tryz.func58, Tryz.ntmps58
  go_wp2_with (fail)
  rw [HW0.out]
  refine (N1.out _ _ _ _ _).mono ?_
  rw [d1]
  rintro e w1 ⟨rfl, hb1⟩
  have O1 := Lib.hid (O0.out.below hb1)
  have HB1 := Lib.hid (bel_trans (B := w.heap.size) HB0.out hb1)
  clear hb1
  obtain ⟨p0, p1, p2, p3, -, -, -, -, pl⟩ := O1.out.tl.nx0.facts
  obtain ⟨q0, q1, q2, q3, -, -, -, -, ql⟩ := O1.out.tl.tl.nx0.facts
  have Q1 := Lib.hid (equo_int (HX.out.keep HB1.out) (HY.out.keep HB1.out) NX.out NY.out)
  go_wp2_with (fail)
  refine Q1.out.mono ?_
  intro e w2 hq
  obtain ⟨s2, A2, n2, c2, s3, A3, n3, c3, er, zq, zr, rfl, hvq, hvr, ho, hb2⟩ := hq.out
  obtain ⟨rfl, rfl, rfl⟩ : er = 0 ∧ zq = quoI x y ∧ zr = remI x y := by
    rcases ho with ⟨h, _⟩ | ⟨_, h1, h2, h3⟩
    · exact absurd h HY0.out
    · exact ⟨h1, h2, h3⟩
  have hn3 : n3 = 0 := hvr.parts.2.1.2 HR.out
  have hbk := bel_trans (B := w.heap.size) HB1.out hb2
  have X3 := Lib.hid ((Bx.new w2 s2 A2 n2 c2).alloc (.cells #[.bool s3, .slice A3 n3 c3] 36))
  have O3 := Lib.hid (((O1.out.below hb2).alloc (.cells #[.bool s2, .slice A2 n2 c2] 36)).alloc (.cells #[.bool s3, .slice A3 n3 c3] 36))
  have V3 := Lib.hid ((hvq.alloc (.cells #[.bool s2, .slice A2 n2 c2] 36)).alloc (.cells #[.bool s3, .slice A3 n3 c3] 36))
  have HB3 := Lib.hid ((hbk.alloc hbk.size (.cells #[.bool s2, .slice A2 n2 c2] 36)).alloc (by have := hbk.size; simp; omega) (.cells #[.bool s3, .slice A3 n3 c3] 36))
  have d3 : decide (n3 = 0) = true := decide_eq_true hn3
  clear hq ho hvq hvr hb2 hbk p0 p1 p2 p3 pl q0 q1 q2 q3 ql hn3
  go_wp2_with (fail)
  refine (N1.out _ _ _ _ _).mono ?_
  rw [d3]
  rintro e w4 ⟨rfl, hb4⟩
  have X4 := Lib.hid (X3.out.below hb4)
  have O4 := Lib.hid (O3.out.below hb4)
  have V4 := Lib.hid (V3.out.keep hb4)
  have HB4 := Lib.hid (bel_trans (B := w.heap.size) HB3.out hb4)
  clear hb4
  obtain ⟨q0, q1, -, -, ql⟩ := X4.out.facts
  go_wp2_with (fail)
  refine (W1.out _ _ _ _ _).mono ?_
  rintro e w5 ⟨rfl, hb5, hv5⟩
  have Y5 := (O4.out.below hb5).nx0
  obtain ⟨W, hW, ZR, hbW, hvW, -⟩ := stored_num Y5 (bel_trans (B := w.heap.size) HB4.out hb5) (by omega) false 0 s2 A2 n2 c2
  obtain ⟨z0, z1, z2, z3, -, -, -, -, zl⟩ := ZR.facts
  obtain ⟨y0, y1, y2, y3, y4, y5, y6, y7, yl⟩ := Y5.facts
  have HBW := Lib.hid hbW
  have HVW := Lib.hid (hvW _ _ (hv5 _ _ V4.out))
  clear hbW hvW ZR Y5 hb5 hv5 q0 q1 ql
  go_wp2_with (fail)
  first | rw [hW] | skip
  refine bodyPost_ret (v := .tuple #[numA false 0 s2 A2 n2 c2, .int .i64 0]) (by simp [results, Tryz.results58, go_sem, z0, z1, z2, z3]) rfl ?_
  exact ⟨s2, A2, n2, c2, rfl, HVW.out, HBW.out⟩

set_option maxRecDepth 100000 in
set_option maxHeartbeats 4000000 in
/-- of two exact ones, where something is left -/
theorem tdiv_flo (f f0 fa fb r : Nat) (s : Bool) (A : Option Addr) (n c : Nat) (s' : Bool) (A' : Option Addr) (n' c' : Nat) (x y : Int) (w : World) (hx : IntV w (.agg #[.bool s, .slice A n c]) x) (hy : IntV w (.agg #[.bool s', .slice A' n' c']) y)
    (nx : ¬ BigI x) (ny : ¬ BigI y) (hy0 : y ≠ 0) (hr : remI x y ≠ 0)
    (hOa : ∀ W, Below w.heap.size w W → Calls Tryz.prog 41 #[.agg #[.bool s, .slice A n c]] W fun e w' => e = .returned (.float .f64 fa) ∧ Below W.heap.size W w')
    (hOb : ∀ W, Below w.heap.size w W → Calls Tryz.prog 41 #[.agg #[.bool s', .slice A' n' c']] W fun e w' => e = .returned (.float .f64 fb) ∧ Below W.heap.size W w')
    (hop : floatBits .quo .f64 fa fb = some r) :
    Calls Tryz.prog 58 #[numA false f s A n c, numA false f0 s' A' n' c'] w fun e w' =>
      e = .returned (.tuple #[numA true r false none 0 0, .int .i64 0]) ∧ Below w.heap.size w w' := by
  have N1 := Lib.hid tnothing_any
  have F1 := Lib.hid tflo_any
  have FA := Lib.hid fun W (h : Below w.heap.size w W) => tfloating_i fa f s A n c W fun W' h' => hOa W' (bel_trans (B := w.heap.size) h h')
  have FB := Lib.hid fun W (h : Below w.heap.size w W) => tfloating_i fb f0 s' A' n' c' W fun W' h' => hOb W' (bel_trans (B := w.heap.size) h h')
  have hdv : ∀ t W, (binOp .quo t (.float .f64 fa) (.float .f64 fb)).run Tryz.prog W = .ok (.float .f64 r) W := fun t W => run_float_arith W .quo t .f64 _ _ _ hop
  have hn0 : n' ≠ 0 := fun h => hy0 (hy.parts.2.1.1 h)
  have d1 : decide (n' = 0) = false := decide_eq_false hn0
  have HX := Lib.hid hx
  have HY := Lib.hid hy
  have NX := Lib.hid nx
  have NY := Lib.hid ny
  have HY0 := Lib.hid hy0
  have HR := Lib.hid hr
  obtain ⟨W0, hW0, hb0, hO⟩ := three_num w false f s A n c false f0 s' A' n' c'
  have O0 := Lib.hid hO
  have HB0 := Lib.hid hb0
  have HW0 := Lib.hid hW0
  clear hx hy nx ny hy0 hr hO hb0 hW0 hOa hOb hop
  go_enter Tryz.func58, Tryz.ntmps58
  go_wp2_with (fail)
  rw [HW0.out]
  refine (N1.out _ _ _ _ _).mono ?_
  rw [d1]
  rintro e w1 ⟨rfl, hb1⟩
  have O1 := Lib.hid (O0.out.below hb1)
  have HB1 := Lib.hid (bel_trans (B := w.heap.size) HB0.out hb1)
  clear hb1
  obtain ⟨p0, p1, p2, p3, -, -, -, -, pl⟩ := O1.out.tl.nx0.facts
  obtain ⟨q0, q1, q2, q3, -, -, -, -, ql⟩ := O1.out.tl.tl.nx0.facts
  have Q1 := Lib.hid (equo_int (HX.out.keep HB1.out) (HY.out.keep HB1.out) NX.out NY.out)
  go_wp2_with (fail)
  refine Q1.out.mono ?_
  intro e w2 hq
  obtain ⟨s2, A2, n2, c2, s3, A3, n3, c3, er, zq, zr, rfl, hvq, hvr, ho, hb2⟩ := hq.out
  obtain ⟨rfl, rfl, rfl⟩ : er = 0 ∧ zq = quoI x y ∧ zr = remI x y := by
    rcases ho with ⟨h, _⟩ | ⟨_, h1, h2, h3⟩
    · exact absurd h HY0.out
    · exact ⟨h1, h2, h3⟩
  have hn3 : n3 ≠ 0 := fun h => HR.out (hvr.parts.2.1.1 h)
  have hbk := bel_trans (B := w.heap.size) HB1.out hb2
  have X3 := Lib.hid ((Bx.new w2 s2 A2 n2 c2).alloc (.cells #[.bool s3, .slice A3 n3 c3] 36))
  have O3 := Lib.hid (((O1.out.below hb2).alloc (.cells #[.bool s2, .slice A2 n2 c2] 36)).alloc (.cells #[.bool s3, .slice A3 n3 c3] 36))
  have V3 := Lib.hid ((hvq.alloc (.cells #[.bool s2, .slice A2 n2 c2] 36)).alloc (.cells #[.bool s3, .slice A3 n3 c3] 36))
  have HB3 := Lib.hid ((hbk.alloc hbk.size (.cells #[.bool s2, .slice A2 n2 c2] 36)).alloc (by have := hbk.size; simp; omega) (.cells #[.bool s3, .slice A3 n3 c3] 36))
  have d3 : decide (n3 = 0) = false := decide_eq_false hn3
  clear hq ho hvq hvr hb2 hbk p0 p1 p2 p3 pl q0 q1 q2 q3 ql hn3
  go_wp2_with (fail)
  refine (N1.out _ _ _ _ _).mono ?_
  rw [d3]
  rintro e w4 ⟨rfl, hb4⟩
  have X4 := Lib.hid (X3.out.below hb4)
  have O4 := Lib.hid (O3.out.below hb4)
  have V4 := Lib.hid (V3.out.keep hb4)
  have HB4 := Lib.hid (bel_trans (B := w.heap.size) HB3.out hb4)
  clear hb4
  have KS : Hid (∀ W, Obs W [(w.heap.size + 1, numO false f0 s' A' n' c'), (w.heap.size, numO false f s A n c)] →
      W.cell? ⟨w.heap.size, 0, none⟩ = some (.bool false) ∧ W.cell? ⟨w.heap.size, 1, none⟩ = some (.float .f64 f) ∧ W.cell? ⟨w.heap.size, 2, none⟩ = some (.bool s) ∧ W.cell? ⟨w.heap.size, 3, none⟩ = some (.slice A n c) ∧
      W.cell? ⟨w.heap.size + 1, 0, none⟩ = some (.bool false) ∧ W.cell? ⟨w.heap.size + 1, 1, none⟩ = some (.float .f64 f0) ∧ W.cell? ⟨w.heap.size + 1, 2, none⟩ = some (.bool s') ∧ W.cell? ⟨w.heap.size + 1, 3, none⟩ = some (.slice A' n' c')) := Lib.hid fun W h => by
    have h1 := ob_cell h.hd
    have h2 := ob_cell h.tl.hd
    exact ⟨h2 0, h2 1, h2 2, h2 3, h1 0, h1 1, h1 2, h1 3⟩
  have hne : ∀ q ∈ ([(w.heap.size + 1, numO false f0 s' A' n' c'), (w.heap.size, numO false f s A n c)] : List (Nat × Obj)), q.1 ≠ w.heap.size + 1 + 1 := by
    intro q hq
    simp only [List.mem_cons, List.not_mem_nil, or_false] at hq
    rcases hq with rfl | rfl <;> simp <;> omega
  have HNE := Lib.hid hne
  have XS5 := Lib.hid O4.out.tl.drew
  have Y5 : Hid (Nx w4.drew (w.heap.size + 1 + 1) false 0 false none 0 0) := Lib.hid O4.out.nx0
  have HB5 := Lib.hid HB4.out.drew
  have D1 := Lib.hid (FA.out _ HB5.out)
  clear hne
  go_wp2_with (fail)
  go_region_held3 (fun W => W.cell? ⟨w.heap.size, 0, none⟩ = some (.bool false) ∧ W.cell? ⟨w.heap.size, 1, none⟩ = some (.float .f64 f) ∧ W.cell? ⟨w.heap.size, 2, none⟩ = some (.bool s) ∧ W.cell? ⟨w.heap.size, 3, none⟩ = some (.slice A n c) ∧
      W.cell? ⟨w.heap.size + 1, 0, none⟩ = some (.bool false) ∧ W.cell? ⟨w.heap.size + 1, 1, none⟩ = some (.float .f64 f0) ∧ W.cell? ⟨w.heap.size + 1, 2, none⟩ = some (.bool s') ∧ W.cell? ⟨w.heap.size + 1, 3, none⟩ = some (.slice A' n' c'))
    ((exact KS.out _ (Hid.out (by assumption))))
    (first
      | (go_at_call 107; (with_reducible refine D1.out.mono ?_); rintro e v1 ⟨rfl, hbz⟩; have XS6 := Lib.hid (XS5.out.below hbz); have Y6 := Lib.hid (Y5.out.below hbz); have HB6 := Lib.hid (bel_trans (B := w.heap.size) HB5.out hbz); have D2 := Lib.hid (FB.out _ HB6.out); clear hbz)
      | (go_at_call 107; (with_reducible refine D2.out.mono ?_); rintro e v2 ⟨rfl, hbz⟩; have XS7 := Lib.hid (XS6.out.below hbz); have Y7 := Lib.hid (Y6.out.below hbz); have HB7 := Lib.hid (bel_trans (B := w.heap.size) HB6.out hbz); clear hbz)
      | (go_at_call 57; (with_reducible refine (F1.out _ _).mono ?_); rintro e v4 ⟨rfl, hbz⟩; have XS8 := Lib.hid (XS7.out.below hbz); have Y8 := Lib.hid (Y7.out.below hbz); have HB8 := Lib.hid (bel_trans (B := w.heap.size) HB7.out hbz); have XS9 := Lib.hid (XS8.out.set4 HNE.out (.bool true) (.float .f64 r) (.bool false) (.slice none 0 0)); obtain ⟨y0, y1, y2, y3, y4, y5, y6, y7, yl⟩ := Y8.out.facts; clear hbz))
  all_goals
    obtain ⟨W, hW, ZR, hbW, hvW, -⟩ := stored_num Y8.out HB8.out (by omega) true r false none 0 0
    obtain ⟨z0, z1, z2, z3, -, -, -, -, zl⟩ := ZR.facts
    have HBW := Lib.hid hbW
    clear hbW hvW ZR
    go_wp2
    first | rw [hW] | skip
    refine bodyPost_ret (v := .tuple #[numA true r false none 0 0, .int .i64 0]) (by simp [results, Tryz.results58, go_sem, z0, z1, z2, z3]) rfl ?_
    exact ⟨rfl, HBW.out⟩

end LM
end Go.Proofs.YtpnjddfnlaonoaaGreatDoor

namespace Go.Proofs.YtpnjddfnlaonoaaGreatDoor
open Go.RowKit
namespace LM
set_option linter.unusedVariables false

theorem intV_zero (w : World) : IntV w (.agg #[.bool false, .slice none 0 0]) 0 := ⟨none, 0, [], rfl, by decide, by decide, Rd.nil, can_nil, rfl⟩

set_option maxRecDepth 100000 in
set_option maxHeartbeats 40000000 in
theorem epow_go (s t : Bool) (A B : Option Addr) (n c m d : Nat) (a : Int) (k : Nat) (w : World) (ha : IntV w (.agg #[.bool s, .slice A n c]) a) (hn : IntV w (.agg #[.bool t, .slice B m d]) (k : Int)) (na : ¬ BigI a) (hk : k ≤ 1000) :
    Calls Tryz.prog 86 #[.agg #[.bool s, .slice A n c], .agg #[.bool t, .slice B m d]] w (PowE w (powI k 1 a)) := by
  obtain ⟨hb0, x0, y0, z0⟩ := new3 w s t A B n c m d
  have HB0 := Lib.hid hb0
  have XS0 := Lib.hid (((Bxs.nil.cons z0).cons y0).cons x0)
  have VA0 := Lib.hid (ha.keep hb0)
  have C1 := Lib.hid (esmall_int (hn.keep hb0))
  have NA := Lib.hid na
  have d1 : decide ((k : Int) < 0) = false := decide_eq_false (by omega)
  have d2 : decide (1000 < (k : Int)) = false := decide_eq_false (by omega)
  have d3 : decide (1000 < k) = false := decide_eq_false (by omega)
  have HOF : Hid (∀ W, Calls Tryz.prog 84 #[.int .i64 1] W (RetI W 1)) := Lib.hid (eof_int 1 (by decide) (by decide))
  clear hb0 x0 y0 z0 ha hn na
  go_enter Tryz.func86, Tryz.ntmps86
  go_wp2_with fail
  refine C1.out.mono ?_
  rintro e w1 ⟨he1, hb1⟩
  obtain rfl := he1.inn' (by omega) (by omega)
  have XS1 := Lib.hid (XS0.out.below hb1)
  have HB1 := Lib.hid (HB0.out.trans (hb1.mono HB0.out.size))
  have VA1 := Lib.hid (VA0.out.keep hb1)
  obtain ⟨q0, q1, -, -, ql⟩ := XS1.out.hd.facts
  have N1 := Lib.hid (show w.heap.size + 1 + 1 < w1.heap.size from XS1.out.tl.tl.hd.lt)
  clear he1 hb1
  go_upto_region 4 with (fail)
  go_cut [8, 9] (fun p q wx => ∃ g8 g9, p = .pointer (some ⟨g8, 0, none⟩) ∧ q = .pointer (some ⟨g9, 0, none⟩) ∧ PwS w wx g8 g9 1 a)
  case first =>
    go_region_with (first
      | (go_at_call 84; (with_reducible refine (HOF.out w1.drew).mono ?_); intro e w2 hz2; obtain ⟨s2, A2, n2, c2, rfl, hv2, hb2⟩ := hz2.gen; have XS2 := Lib.hid (Bxs.below (XS1.out.drew) hb2); have Q2 := Lib.hid (show Qs w w2 _ (.agg #[.bool s2, .slice A2 n2 c2]) (.agg #[.bool s, .slice A n c]) 1 a from ⟨(Bxs.nil.cons XS2.out.tl.tl.hd), hv2, IntV.keep (VA1.out.drew) hb2, bel_trans (B := w.heap.size) HB1.out.drew hb2⟩); obtain ⟨r0, r1, -, -, rl⟩ := XS2.out.hd.facts; have HLE := Lib.hid ((show w1.heap.size ≤ w2.heap.size from hb2.size)); clear hz2 hv2 hb2)
      | (go_at_call 84; (with_reducible refine (HOF.out (w1.alloc (.cells #[.bool _, .slice _ _ _] 36)).drew).mono ?_); intro e w2 hz2; obtain ⟨s2, A2, n2, c2, rfl, hv2, hb2⟩ := hz2.gen; have XS2 := Lib.hid (Bxs.below ((XS1.out.alloc _).drew) hb2); have Y1 := Lib.hid (one_new hb2); obtain ⟨f0, f1, f2, f3, f4⟩ := Y1.out.facts; have Q2 := Lib.hid (show Qs w w2 _ (.agg #[.bool s2, .slice A2 n2 c2]) (.agg #[.bool s, .slice A n c]) 1 a from ⟨((Bxs.nil.cons XS2.out.tl.tl.hd).cons Y1.out), hv2, IntV.keep ((VA1.out.alloc _).drew) hb2, bel_trans (B := w.heap.size) (bel1 HB1.out _) hb2⟩); obtain ⟨r0, r1, -, -, rl⟩ := XS2.out.hd.facts; have HLE := Lib.hid (le1 hb2); clear hz2 hv2 hb2)
      | (go_at_call 84; (with_reducible refine (HOF.out ((w1.alloc (.cells #[.bool _, .slice _ _ _] 36)).alloc (.cells #[.bool _, .slice _ _ _] 36)).drew).mono ?_); intro e w2 hz2; obtain ⟨s2, A2, n2, c2, rfl, hv2, hb2⟩ := hz2.gen; have XS2 := Lib.hid (Bxs.below (((XS1.out.alloc _).alloc _).drew) hb2); have Y1 := Lib.hid (two_fst hb2); obtain ⟨f0, f1, f2, f3, f4⟩ := Y1.out.facts; have Y2 := Lib.hid (two_snd hb2); obtain ⟨g0, g1, g2, g3, g4⟩ := Y2.out.facts; have Q2 := Lib.hid (show Qs w w2 _ (.agg #[.bool s2, .slice A2 n2 c2]) (.agg #[.bool s, .slice A n c]) 1 a from ⟨(((Bxs.nil.cons XS2.out.tl.tl.hd).cons Y1.out).cons Y2.out), hv2, IntV.keep (((VA1.out.alloc _).alloc _).drew) hb2, bel_trans (B := w.heap.size) (bel2 HB1.out _ _) hb2⟩); obtain ⟨r0, r1, -, -, rl⟩ := XS2.out.hd.facts; have HLE := Lib.hid (le2 hb2); clear hz2 hv2 hb2))
    all_goals (go_wp2_with fail; go_meet)
    all_goals (refine ⟨_, _, rfl, rfl, ?_⟩)
    all_goals first
      | with_reducible exact pw_fin0 Q2.out N1.out HLE.out
      | with_reducible exact pw_fin1 Q2.out N1.out HLE.out
      | with_reducible exact pw_fin2 Q2.out N1.out HLE.out
      | with_reducible exact pw_fin3 Q2.out N1.out HLE.out
      | with_reducible exact pw_fin4 Q2.out N1.out HLE.out
      | with_reducible exact pw_fin5 Q2.out N1.out HLE.out
      | with_reducible exact pw_fin6 Q2.out N1.out HLE.out
      | with_reducible exact pw_fin7 Q2.out N1.out HLE.out
      | with_reducible exact pw_fin8 Q2.out N1.out HLE.out
      | with_reducible exact pw_fin9 Q2.out N1.out HLE.out
      | with_reducible exact pw_fin10 Q2.out N1.out HLE.out
  case rest =>
    obtain ⟨g8, g9, rfl, rfl, hst⟩ := hcut
    have HST := Lib.hid hst
    clear hst q0 q1 ql XS0 HB0 VA0 C1 XS1 HB1 VA1 N1 HOF d1 d2 d3
    go_wp2_with fail
    go_loopg [6] k (fun kk x6 wr => x6 = .int .i64 (kk : Int) ∧ kk ≤ 1000 ∧ ∃ p a', PwS w wr g8 g9 p a' ∧ ¬ BigI p ∧ ¬ BigI a' ∧ powI kk p a' = powI k 1 a)
    case atStart => exact ⟨rfl, hk, 1, a, HST.out, small_not_big (by decide), NA.out, rfl⟩
    case round =>
      obtain ⟨rfl, hkk, p, a', hst, np, na, hpow⟩ := hrel
      clear HST
      have HP := Lib.hid hpow
      have NP := Lib.hid np
      have NA' := Lib.hid na
      obtain ⟨s8, A8, n8, c8, s9, A9, n9, c9, hg8, hg9, hgn, hgr8, hgr9, hx8, hx9, hxr, hv8, hv9, hb⟩ := hst
      have HX8 := Lib.hid hx8
      have HX9 := Lib.hid hx9
      have HXR := Lib.hid hxr
      have HV8 := Lib.hid hv8
      have HV9 := Lib.hid hv9
      have HB := Lib.hid hb
      clear hpow np na hx8 hx9 hxr hv8 hv9 hb
      by_cases ho : gk % 2 = 1
      · have e1 : ((gk : Int) % 2 == 1) = true := by rw [beq_iff_eq]; omega
        have HO := Lib.hid ho
        have M1 := Lib.hid (emul_int HV8.out HV9.out NP.out NA'.out)
        obtain ⟨x80, x81, x82, x83, x84⟩ := HX8.out.facts
        obtain ⟨x90, x91, x92, x93, x94⟩ := HX9.out.facts
        clear ho
        go_wp2_with fail
        refine M1.out.mono ?_
        rintro e w2 ⟨s2, A2, n2, c2, er2, rfl, hcase2, hb2⟩
        have Y8 := Lib.hid (HX8.out.below hb2)
        have Y9 := Lib.hid (HX9.out.below hb2)
        have YR := Lib.hid (HXR.out.below hb2)
        have HB2 := Lib.hid (bel_trans (B := w.heap.size) HB.out hb2)
        have VA2 := Lib.hid (HV9.out.keep hb2)
        clear x80 x81 x82 x83 x84 x90 x91 x92 x93 x94 hb2
        obtain ⟨x80, x81, x82, x83, x84⟩ := Y8.out.facts
        obtain ⟨W3, hW3, Z8, hb3, hv3, -, ho3, -⟩ := stored_world Y8.out HB2.out (by omega) s2 A2 n2 c2
        have X93 := Lib.hid (ho3 _ _ _ _ _ (by omega) Y9.out)
        have XR3 := Lib.hid (ho3 _ _ _ _ _ (by omega) YR.out)
        have X83 := Lib.hid Z8
        have HB3 := Lib.hid hb3
        have HVK := Lib.hid hv3
        have VA3 := Lib.hid (HVK.out _ _ VA2.out)
        clear hb3 hv3 ho3 Z8
        rcases hcase2 with ⟨hbig, rfl, hv2⟩ | ⟨hnb, rfl, hv2⟩
        · have HPE := Lib.hid (HP.out.symm.trans (powI_odd_big HO.out hbig))
          obtain ⟨j0, j1, j2, j3, j4⟩ := XR3.out.facts
          clear hbig hv2
          obtain ⟨V, hV, ZR, hbV, hvV, -, -, -⟩ := stored_world XR3.out HB3.out (by omega) false none 0 0
          obtain ⟨z0, z1, z2, z3, z4⟩ := ZR.facts
          have HBV := Lib.hid hbV
          have HVV := Lib.hid hvV
          clear hbV hvV
          go_wp2
          first | rw [hV] | skip
          refine bodyPost_ret (v := .tuple #[.agg #[.bool false, .slice none 0 0], .int .i64 11]) (by simp [results, Tryz.results86, go_sem, z0, z1]) rfl ?_
          exact ⟨_, _, _, _, _, rfl, .inl ⟨HPE.out, rfl, intV_zero _⟩, HBV.out⟩
        · have NPP := Lib.hid hnb
          have V83 := Lib.hid (HVK.out _ _ hv2)
          clear hnb hv2
          by_cases h2 : gk / 2 = 0
          · have e2 : ((gk : Int) / 2 == 0) = true := by rw [beq_iff_eq]; omega
            have HPE := Lib.hid (HP.out.symm.trans (powI_odd_end HO.out h2 NPP.out))
            obtain ⟨k0, k1, k2, k3, k4⟩ := X83.out.facts
            obtain ⟨j0, j1, j2, j3, j4⟩ := XR3.out.facts
            obtain ⟨V, hV, ZR, hbV, hvV, -, -, -⟩ := stored_world XR3.out HB3.out (by omega) s2 A2 n2 c2
            obtain ⟨z0, z1, z2, z3, z4⟩ := ZR.facts
            have HBV := Lib.hid hbV
            have HVV := Lib.hid hvV
            clear hbV hvV
            go_wp2
            first | rw [hV] | skip
            refine bodyPost_ret (v := .tuple #[.agg #[.bool s2, .slice A2 n2 c2], .int .i64 0]) (by simp [results, Tryz.results86, go_sem, z0, z1]) rfl ?_
            exact ⟨_, _, _, _, _, rfl, .inr ⟨_, HPE.out, rfl, HVV.out _ _ V83.out⟩, HBV.out⟩
          · have e2 : ((gk : Int) / 2 == 0) = false := by rw [beq_eq_false_iff_ne]; omega
            have H2 := Lib.hid h2
            have M2 := Lib.hid (emul_int VA3.out VA3.out NA'.out NA'.out)
            obtain ⟨k0, k1, k2, k3, k4⟩ := X93.out.facts
            clear h2
            go_wp2_with fail
            refine M2.out.mono ?_
            rintro e w4 ⟨s4, A4, n4, c4, er4, rfl, hcase4, hb4⟩
            have Y8 := Lib.hid (X83.out.below hb4)
            have Y9 := Lib.hid (X93.out.below hb4)
            have YR := Lib.hid (XR3.out.below hb4)
            have HB4 := Lib.hid (bel_trans (B := w.heap.size) HB3.out hb4)
            have VP4 := Lib.hid (V83.out.keep hb4)
            clear k0 k1 k2 k3 k4 hb4
            obtain ⟨k0, k1, k2, k3, k4⟩ := Y9.out.facts
            obtain ⟨W5, hW5, Z9, hb5, hv5, -, ho5, -⟩ := stored_world Y9.out HB4.out (by omega) s4 A4 n4 c4
            have X85 := Lib.hid (ho5 _ _ _ _ _ (by omega) Y8.out)
            have XR5 := Lib.hid (ho5 _ _ _ _ _ (by omega) YR.out)
            have X95 := Lib.hid Z9
            have HB5 := Lib.hid hb5
            have HV5 := Lib.hid hv5
            clear hb5 hv5 ho5 Z9
            obtain ⟨j0, j1, j2, j3, j4⟩ := XR5.out.facts
            rcases hcase4 with ⟨hbig, rfl, hv4⟩ | ⟨hnb, rfl, hv4⟩
            · have HPE := Lib.hid (HP.out.symm.trans (powI_odd_sq HO.out H2.out NPP.out hbig))
              clear hbig hv4
              obtain ⟨V, hV, ZR, hbV, hvV, -, -, -⟩ := stored_world XR5.out HB5.out (by omega) false none 0 0
              obtain ⟨z0, z1, z2, z3, z4⟩ := ZR.facts
              have HBV := Lib.hid hbV
              have HVV := Lib.hid hvV
              clear hbV hvV
              go_wp2
              first | rw [hV] | skip
              refine bodyPost_ret (v := .tuple #[.agg #[.bool false, .slice none 0 0], .int .i64 11]) (by simp [results, Tryz.results86, go_sem, z0, z1]) rfl ?_
              exact ⟨_, _, _, _, _, rfl, .inl ⟨HPE.out, rfl, intV_zero _⟩, HBV.out⟩
            · have HPE := Lib.hid (HP.out.symm.trans (powI_odd_go HO.out H2.out NPP.out hnb))
              have NB := Lib.hid hnb
              have HV4 := Lib.hid hv4
              clear hnb hv4
              go_wp2_with fail
              go_roundg (gk / 2)
              case measure => have := H2.out; omega
              case rel => exact ⟨by first | rfl | (congr 1), by omega, (p * a'), a' * a', ⟨_, _, _, _, _, _, _, _, hg8, hg9, hgn, hgr8, hgr9, X85.out, X95.out, XR5.out, HV5.out _ _ VP4.out, HV5.out _ _ HV4.out, HB5.out⟩, NPP.out, NB.out, HPE.out.symm⟩
      · have e1 : ((gk : Int) % 2 == 1) = false := by rw [beq_eq_false_iff_ne]; omega
        have HO := Lib.hid ho
        clear ho
        by_cases h2 : gk / 2 = 0
        · have e2 : ((gk : Int) / 2 == 0) = true := by rw [beq_iff_eq]; omega
          have HPE := Lib.hid (HP.out.symm.trans (powI_even_end HO.out h2 NP.out))
          obtain ⟨k0, k1, k2, k3, k4⟩ := HX8.out.facts
          obtain ⟨j0, j1, j2, j3, j4⟩ := HXR.out.facts
          obtain ⟨V, hV, ZR, hbV, hvV, -, -, -⟩ := stored_world HXR.out HB.out (by omega) s8 A8 n8 c8
          obtain ⟨z0, z1, z2, z3, z4⟩ := ZR.facts
          have HBV := Lib.hid hbV
          have HVV := Lib.hid hvV
          clear hbV hvV
          go_wp2
          first | rw [hV] | skip
          refine bodyPost_ret (v := .tuple #[.agg #[.bool s8, .slice A8 n8 c8], .int .i64 0]) (by simp [results, Tryz.results86, go_sem, z0, z1]) rfl ?_
          exact ⟨_, _, _, _, _, rfl, .inr ⟨_, HPE.out, rfl, HVV.out _ _ HV8.out⟩, HBV.out⟩
        · have e2 : ((gk : Int) / 2 == 0) = false := by rw [beq_eq_false_iff_ne]; omega
          have H2 := Lib.hid h2
          have M2 := Lib.hid (emul_int HV9.out HV9.out NA'.out NA'.out)
          obtain ⟨k0, k1, k2, k3, k4⟩ := HX9.out.facts
          clear h2
          go_wp2_with fail
          refine M2.out.mono ?_
          rintro e w4 ⟨s4, A4, n4, c4, er4, rfl, hcase4, hb4⟩
          have Y8 := Lib.hid (HX8.out.below hb4)
          have Y9 := Lib.hid (HX9.out.below hb4)
          have YR := Lib.hid (HXR.out.below hb4)
          have HB4 := Lib.hid (bel_trans (B := w.heap.size) HB.out hb4)
          have VP4 := Lib.hid (HV8.out.keep hb4)
          clear k0 k1 k2 k3 k4 hb4
          obtain ⟨k0, k1, k2, k3, k4⟩ := Y9.out.facts
          obtain ⟨W5, hW5, Z9, hb5, hv5, -, ho5, -⟩ := stored_world Y9.out HB4.out (by omega) s4 A4 n4 c4
          have X85 := Lib.hid (ho5 _ _ _ _ _ (by omega) Y8.out)
          have XR5 := Lib.hid (ho5 _ _ _ _ _ (by omega) YR.out)
          have X95 := Lib.hid Z9
          have HB5 := Lib.hid hb5
          have HV5 := Lib.hid hv5
          clear hb5 hv5 ho5 Z9
          obtain ⟨j0, j1, j2, j3, j4⟩ := XR5.out.facts
          rcases hcase4 with ⟨hbig, rfl, hv4⟩ | ⟨hnb, rfl, hv4⟩
          · have HPE := Lib.hid (HP.out.symm.trans (powI_even_sq HO.out H2.out NP.out hbig))
            clear hbig hv4
            obtain ⟨V, hV, ZR, hbV, hvV, -, -, -⟩ := stored_world XR5.out HB5.out (by omega) false none 0 0
            obtain ⟨z0, z1, z2, z3, z4⟩ := ZR.facts
            have HBV := Lib.hid hbV
            have HVV := Lib.hid hvV
            clear hbV hvV
            go_wp2
            first | rw [hV] | skip
            refine bodyPost_ret (v := .tuple #[.agg #[.bool false, .slice none 0 0], .int .i64 11]) (by simp [results, Tryz.results86, go_sem, z0, z1]) rfl ?_
            exact ⟨_, _, _, _, _, rfl, .inl ⟨HPE.out, rfl, intV_zero _⟩, HBV.out⟩
          · have HPE := Lib.hid (HP.out.symm.trans (powI_even_go HO.out H2.out NP.out hnb))
            have NB := Lib.hid hnb
            have HV4 := Lib.hid hv4
            clear hnb hv4
            go_wp2_with fail
            go_roundg (gk / 2)
            case measure => have := H2.out; omega
            case rel => exact ⟨by first | rfl | (congr 1), by omega, p, a' * a', ⟨_, _, _, _, _, _, _, _, hg8, hg9, hgn, hgr8, hgr9, X85.out, X95.out, XR5.out, HV5.out _ _ VP4.out, HV5.out _ _ HV4.out, HB5.out⟩, NP.out, NB.out, HPE.out.symm⟩

end LM
end Go.Proofs.YtpnjddfnlaonoaaGreatDoor

namespace Go.Proofs.YtpnjddfnlaonoaaGreatDoor
open Go.RowKit
namespace LM
set_option linter.unusedVariables false

end LM
end Go.Proofs.YtpnjddfnlaonoaaGreatDoor

namespace Go.Proofs.YtpnjddfnlaonoaaGreatDoor
open Go.RowKit
namespace LM
set_option linter.unusedVariables false

theorem SmallE.form {x : Int} {e : Ending} (h : SmallE x e) : ∃ (k : Int) (b : Bool), e = .returned (.tuple #[.int .i64 k, .bool b]) ∧ (k, b) = (if -9223372036854775808 ≤ x ∧ x ≤ 9223372036854775807 then (x, true) else (0, false)) := by
  rcases h with ⟨h1, h2, h3⟩ | ⟨h1, h3⟩
  · exact ⟨_, _, h3, by rw [if_pos ⟨h1, h2⟩]⟩
  · exact ⟨_, _, h3, by rw [if_neg h1]⟩
end LM
end Go.Proofs.YtpnjddfnlaonoaaGreatDoor

namespace Go.Proofs.YtpnjddfnlaonoaaGreatDoor
open Go.RowKit
namespace LM
set_option linter.unusedVariables false

end LM
end Go.Proofs.YtpnjddfnlaonoaaGreatDoor

namespace Go.Proofs.YtpnjddfnlaonoaaGreatDoor
open Go.RowKit
namespace LM
set_option linter.unusedVariables false

def powR (x y : Int) : Int × Int := if 0 ≤ y ∧ y ≤ 1000 then (match powI y.natAbs 1 x with | none => (0, 11) | some z => (z, 0)) else (0, 21)
theorem zero_fits : ¬ BigI 0 := small_not_big (by decide)
end LM
end Go.Proofs.YtpnjddfnlaonoaaGreatDoor

namespace Go.Proofs.YtpnjddfnlaonoaaGreatDoor
open Go.RowKit
namespace LM
set_option linter.unusedVariables false

end LM
end Go.Proofs.YtpnjddfnlaonoaaGreatDoor
