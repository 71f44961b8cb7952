/- Walks of package exact: Of, Text, Mod. -/
import Derived.Lib.ParseIntBCases
import Derived.Test.YtpoojlnndgoeoaaGreatDoorLimbA
import Derived.Test.YtpoojlnndgoeoaaGreatDoorLimbR
import Derived.Test.YtpoojlnndgoeoaaGreatDoorLimbT
import Derived.Lib.SmallJoins
namespace Go.Proofs.YtpoojlnndgoeoaaGreatDoor
open Go
namespace LM

/-- every byte is a digit -/
def Digs (l : List UInt8) : Prop := ∀ c ∈ l, 48 ≤ c.toNat ∧ c.toNat ≤ 57
/-- what digits mean, behind a number -/
def dval (acc : Nat) (l : List UInt8) : Nat := l.foldl (fun a c => a * 10 + (c.toNat - 48)) acc
theorem dval_nil (acc : Nat) : dval acc [] = acc := rfl
theorem dval_cons (acc : Nat) (c : UInt8) (r : List UInt8) : dval acc (c :: r) = dval (acc * 10 + (c.toNat - 48)) r := by unfold dval; rw [List.foldl_cons]
theorem dval_append (l m : List UInt8) : ∀ acc, dval acc (l ++ m) = dval (dval acc l) m := by
  induction l with
  | nil => intro acc; rfl
  | cons c r ih => intro acc; rw [List.cons_append, dval_cons, dval_cons, ih]
theorem dval_snoc (acc : Nat) (l : List UInt8) (c : UInt8) : dval acc (l ++ [c]) = dval acc l * 10 + (c.toNat - 48) := by rw [dval_append]; rfl
theorem dval_shift (l : List UInt8) : ∀ acc, dval acc l = acc * 10 ^ l.length + dval 0 l := by
  induction l with
  | nil => intro acc; simp [dval_nil]
  | cons c r ih =>
    intro acc
    rw [dval_cons, ih, dval_cons, Nat.zero_mul, Nat.zero_add, ih (c.toNat - 48), List.length_cons, Nat.pow_succ]
    grind
theorem dval_lt {l : List UInt8} (h : Digs l) : dval 0 l < 10 ^ l.length := by
  induction l with
  | nil => simp [dval_nil]
  | cons c r ih =>
    have h1 := ih fun x hx => h x (List.mem_cons_of_mem _ hx)
    have h2 := h c (List.mem_cons_self ..)
    rw [dval_cons, Nat.zero_mul, Nat.zero_add, dval_shift, List.length_cons, Nat.pow_succ]
    have h3 : (c.toNat - 48) * 10 ^ r.length ≤ 9 * 10 ^ r.length := Nat.mul_le_mul_right _ (by omega)
    omega
theorem Digs.take {l : List UInt8} (h : Digs l) (n : Nat) : Digs (l.take n) := fun c hc => h c (List.mem_of_mem_take hc)
theorem Digs.drop {l : List UInt8} (h : Digs l) (n : Nat) : Digs (l.drop n) := fun c hc => h c (List.mem_of_mem_drop hc)
theorem Digs.append {l m : List UInt8} (h : Digs l) (k : Digs m) : Digs (l ++ m) := fun c hc => (List.mem_append.1 hc).elim (h c) (k c)

theorem parseM_ok (l : List UInt8) : ∀ acc k, Digs l → acc < 10 ^ k → k + l.length ≤ 9 → Lib.parseUintM (2 ^ 32 - 1) acc l = .ok (dval acc l) := by
  induction l with
  | nil => intro acc k _ _ _; rfl
  | cons c r ih =>
    intro acc k h ha hk
    have hc := h c (List.mem_cons_self ..)
    rw [List.length_cons] at hk
    have h8 : 10 ^ (k + 1) ≤ 10 ^ 9 := Nat.pow_le_pow_right (by decide) (by omega)
    have h9 : (10 : Nat) ^ 9 = 1000000000 := by decide
    rw [Nat.pow_succ] at h8
    rw [Lib.parseUintM, if_pos hc, if_neg (by omega), if_neg (by omega), dval_cons]
    exact ih _ (k + 1) (fun x hx => h x (List.mem_cons_of_mem _ hx)) (by rw [Nat.pow_succ]; omega) (by omega)
theorem parseB_ok {l : List UInt8} (hd : Digs l) (h1 : 1 ≤ l.length) (h2 : l.length ≤ 9) : Lib.parseUintB 32 l = .ok (dval 0 l) := by
  unfold Lib.parseUintB
  rw [if_neg (by intro h; rw [h] at h1; simp at h1)]
  exact parseM_ok l 0 0 hd (by decide) (by omega)
theorem parseM_bad (l : List UInt8) : ∀ acc k, ¬ Digs l → acc < 10 ^ k → k + l.length ≤ 9 → (∀ u, Lib.parseUintM (2 ^ 32 - 1) acc l ≠ .ok u) ∧ Lib.parseUintM (2 ^ 32 - 1) acc l ≠ .range := by
  induction l with
  | nil => intro acc k h _ _; exact absurd (fun c hc => (by cases hc)) h
  | cons c r ih =>
    intro acc k h ha hk
    rw [List.length_cons] at hk
    by_cases hc : 48 ≤ c.toNat ∧ c.toNat ≤ 57
    · have h8 : 10 ^ (k + 1) ≤ 10 ^ 9 := Nat.pow_le_pow_right (by decide) (by omega)
      have h9 : (10 : Nat) ^ 9 = 1000000000 := by decide
      rw [Nat.pow_succ] at h8
      rw [Lib.parseUintM, if_pos hc, if_neg (by omega), if_neg (by omega)]
      refine ih _ (k + 1) (fun hd => h fun x hx => ?_) (by rw [Nat.pow_succ]; omega) (by omega)
      rcases List.mem_cons.1 hx with rfl | hx
      · exact hc
      · exact hd x hx
    · rw [Lib.parseUintM, if_neg hc]
      exact ⟨(fun u h => by cases h), (fun h => by cases h)⟩
theorem parseB_bad {l : List UInt8} (hd : ¬ Digs l) (h2 : l.length ≤ 9) : (∀ u, Lib.parseUintB 32 l ≠ .ok u) ∧ Lib.parseUintB 32 l ≠ .range := by
  unfold Lib.parseUintB
  rw [if_neg (by intro h; rw [h] at hd; exact hd (fun c hc => (by cases hc)))]
  exact parseM_bad l 0 0 hd (by decide) (by omega)

/-- a decimal numeral is digits, and means its number -/
theorem dec_digs (u : Nat) : Digs (Lib.decDigits u) ∧ dval 0 (Lib.decDigits u) = u := by
  induction u using Nat.strongRecOn with
  | ind u ih =>
    by_cases h : u < 10
    · rw [Lib.decDigits_one h]
      have e : (UInt8.ofNat (48 + u)).toNat = 48 + u := by simp; omega
      refine ⟨fun c hc => ?_, ?_⟩
      · rw [List.mem_singleton.1 hc, e]; omega
      · rw [dval_cons, dval_nil, e]; omega
    · rw [dec_big h]
      obtain ⟨h1, h2⟩ := ih (u / 10) (by omega)
      have e : (UInt8.ofNat (48 + u % 10)).toNat = 48 + u % 10 := by simp; omega
      refine ⟨h1.append fun c hc => ?_, ?_⟩
      · rw [List.mem_singleton.1 hc, e]; omega
      · rw [dval_snoc, h2, e]; omega
/-- zeros ahead change nothing -/
theorem dval_zeros (n : Nat) (l : List UInt8) : dval 0 (List.replicate n 48 ++ l) = dval 0 l := by
  induction n with
  | zero => rfl
  | succ n ih => rw [List.replicate_succ, List.cons_append, dval_cons]; exact ih
theorem digs_zeros (n : Nat) : Digs (List.replicate n 48) := fun c hc => by rw [List.eq_of_mem_replicate hc]; decide

end LM
end Go.Proofs.YtpoojlnndgoeoaaGreatDoor

namespace Go.Proofs.YtpoojlnndgoeoaaGreatDoor
open Go.RowKit
namespace LM

theorem dec_first (u : Nat) (hu : 0 < u) : ∃ c r, Lib.decDigits u = c :: r ∧ c ≠ 48 := by
  induction u using Nat.strongRecOn with
  | ind u ih =>
    by_cases h : u < 10
    · rw [Lib.decDigits_one h]
      refine ⟨_, [], rfl, fun e => ?_⟩
      have e1 : (UInt8.ofNat (48 + u)).toNat = 48 + u := by simp; omega
      rw [e] at e1
      have e2 : (48 : UInt8).toNat = 48 := rfl
      omega
    · rw [dec_big h]
      obtain ⟨c, r, e, hc⟩ := ih (u / 10) (by omega) (by omega)
      rw [e]
      exact ⟨c, r ++ [_], rfl, hc⟩
theorem pow_fits : (4294967296 : Nat) ^ 64 ≤ 10 ^ (616 + 1) := of_decide_eq_true (by kernel_rfl)
theorem dec_fits {u : Nat} (h : ¬ BIG u) : 1 ≤ (Lib.decDigits u).length ∧ (Lib.decDigits u).length ≤ 617 := by
  have h2 : Lib.nDigits u ≤ 616 + 1 := nDigits_le (k := 616) (Nat.lt_of_lt_of_le (Nat.lt_of_not_le h) pow_fits)
  rw [Lib.decDigits_length]
  refine ⟨?_, by omega⟩
  rw [← Lib.decDigits_length]
  rcases Nat.eq_zero_or_pos u with rfl | hp
  · rw [Lib.decDigits_one (by decide)]; simp
  · obtain ⟨c, r, e, _⟩ := dec_first u hp
    rw [e]; simp

end LM
end Go.Proofs.YtpoojlnndgoeoaaGreatDoor

namespace Go.Proofs.YtpoojlnndgoeoaaGreatDoor
open Go.RowKit
namespace LM

theorem wrap_neg2 (m : Nat) (h1 : 1 ≤ m) (h2 : m ≤ 9223372036854775808) : IntKind.u64.wrap (-IntKind.u64.wrap (-(m : Int))) = (m : Int) := by
  go_arith
theorem str_cons (a : UInt8) (l : List UInt8) : (⟨#[a]⟩ ++ ⟨l.toArray⟩ : ByteArray) = ⟨(a :: l).toArray⟩ := by
  apply ByteArray.ext
  apply Array.ext'
  rw [Joins.data_append]
  rfl
theorem new1 (w : World) : Below w.heap.size w (w.alloc (.cells #[.bool false, .slice none 0 0] 41)) ∧ Bx (w.alloc (.cells #[.bool false, .slice none 0 0] 41)) w.heap.size false none 0 0 :=
  ⟨(Below.refl _ w).alloc (Nat.le_refl _) _, Bx.new w false none 0 0⟩

set_option maxRecDepth 100000 in
set_option maxHeartbeats 1000000 in
theorem eof_pos (m : Nat) (hm : m ≤ 9223372036854775807) (w : World) :
    Calls Tryz.prog 52 #[.int .i64 (m : Int)] w (RetI w (sg false m)) := by
  obtain ⟨hb0, x0⟩ := new1 w
  have HB0 := Lib.hid hb0
  have X0 := Lib.hid x0
  have H1 := Lib.hid (of_any m (w.alloc (.cells #[.bool false, .slice none 0 0] 41)) (by omega))
  have hneg : decide ((m : Int) < 0) = false := decide_eq_false (by omega)
  clear hb0 x0
  go_enter Tryz.func52, Tryz.ntmps52
  go_wp2_with fail
  refine H1.out.mono ?_
  rintro e w1 ⟨⟨v, rfl, hN⟩, hb1⟩
  obtain ⟨A1, c1, r1, rfl, hr1, hc1, hrd, hcan, hval⟩ := numW_of hN
  have X1 := Lib.hid (X0.out.below hb1)
  have HB1 := Lib.hid (HB0.out.trans (hb1.mono HB0.out.size))
  have HS := Lib.hid (signed_num false A1 c1 r1 w1 hr1 hc1 hrd hcan)
  rw [hval] at HS
  clear hN hrd hcan hb1 hval
  go_wp2_with fail
  refine HS.out.mono ?_
  rintro e w2 ⟨A2, n2, c2, rfl, hv, hb2⟩
  have X2 := Lib.hid (X1.out.below hb2)
  obtain ⟨q0, q1, z0, z1, zl⟩ := X2.out.facts
  have HB2 := Lib.hid (HB1.out.trans (hb2.mono HB1.out.size))
  have HV := Lib.hid hv
  clear hv hb2
  go_wp2
  obtain ⟨W3, hW3, Z, hb3, hv3, -, -, -⟩ := stored_world X2.out HB2.out (by omega) (decide (sg false m < 0)) A2 n2 c2
  rw [hW3]
  have HV3 := Lib.hid (hv3 _ _ HV.out)
  obtain ⟨c0, c1, -, -, -⟩ := Z.facts
  clear q0 q1 z0 z1 zl hW3 hv3
  refine bodyPost_ret (v := .agg #[.bool (decide (sg false m < 0)), .slice A2 n2 c2]) (by simp [results, Tryz.results52, go_sem, c0, c1]) rfl ?_
  exact ⟨_, _, _, rfl, HV3.out, hb3⟩

set_option maxRecDepth 100000 in
set_option maxHeartbeats 1000000 in
theorem eof_neg (m : Nat) (h1 : 1 ≤ m) (hm : m ≤ 9223372036854775808) (w : World) :
    Calls Tryz.prog 52 #[.int .i64 (-(m : Int))] w (RetI w (sg true m)) := by
  obtain ⟨hb0, x0⟩ := new1 w
  have HB0 := Lib.hid hb0
  have X0 := Lib.hid x0
  have H1 := Lib.hid (of_any m (w.alloc (.cells #[.bool false, .slice none 0 0] 41)) (by omega))
  have hneg : decide (-(m : Int) < 0) = true := decide_eq_true (by omega)
  clear hb0 x0
  go_enter Tryz.func52, Tryz.ntmps52
  go_wp2_with fail
  rw [wrap_neg2 m h1 hm]
  refine H1.out.mono ?_
  rintro e w1 ⟨⟨v, rfl, hN⟩, hb1⟩
  obtain ⟨A1, c1, r1, rfl, hr1, hc1, hrd, hcan, hval⟩ := numW_of hN
  have X1 := Lib.hid (X0.out.below hb1)
  have HB1 := Lib.hid (HB0.out.trans (hb1.mono HB0.out.size))
  have HS := Lib.hid (signed_num true A1 c1 r1 w1 hr1 hc1 hrd hcan)
  rw [hval] at HS
  clear hN hrd hcan hb1 hval
  go_wp2_with fail
  refine HS.out.mono ?_
  rintro e w2 ⟨A2, n2, c2, rfl, hv, hb2⟩
  have X2 := Lib.hid (X1.out.below hb2)
  obtain ⟨q0, q1, z0, z1, zl⟩ := X2.out.facts
  have HB2 := Lib.hid (HB1.out.trans (hb2.mono HB1.out.size))
  have HV := Lib.hid hv
  clear hv hb2
  go_wp2
  obtain ⟨W3, hW3, Z, hb3, hv3, -, -, -⟩ := stored_world X2.out HB2.out (by omega) (decide (sg true m < 0)) A2 n2 c2
  rw [hW3]
  have HV3 := Lib.hid (hv3 _ _ HV.out)
  obtain ⟨c0, c1, -, -, -⟩ := Z.facts
  clear q0 q1 z0 z1 zl hW3 hv3
  refine bodyPost_ret (v := .agg #[.bool (decide (sg true m < 0)), .slice A2 n2 c2]) (by simp [results, Tryz.results52, go_sem, c0, c1]) rfl ?_
  exact ⟨_, _, _, rfl, HV3.out, hb3⟩

/-- that of any int -/
theorem eof_int (z : Int) (h1 : -9223372036854775808 ≤ z) (h2 : z ≤ 9223372036854775807) (w : World) : Calls Tryz.prog 52 #[.int .i64 z] w (RetI w z) := by
  by_cases h : z < 0
  · obtain ⟨m, rfl⟩ : ∃ m : Nat, z = -(m : Int) := ⟨z.natAbs, by omega⟩
    have := eof_neg m (by omega) (by omega) w
    rw [show sg true m = -(m : Int) from rfl] at this
    exact this
  · obtain ⟨m, rfl⟩ : ∃ m : Nat, z = (m : Int) := ⟨z.natAbs, by omega⟩
    have := eof_pos m (by omega) w
    rw [show sg false m = (m : Int) from rfl] at this
    exact this

/-- a text: the bytes, and a - ahead of them -/
def decI (z : Int) : List UInt8 := if z < 0 then 45 :: Lib.decDigits z.natAbs else Lib.decDigits z.natAbs

theorem IntV.parts {w : World} {b : Bool} {A : Option Addr} {n c : Nat} {z : Int} (h : IntV w (.agg #[.bool b, .slice A n c]) z) : b = decide (z < 0) ∧ (n = 0 ↔ z = 0) ∧ n ≤ c ∧ c ≤ 9223372036854775807 := by
  obtain ⟨A', c', r, e, h1, h2, h3, h4, h5⟩ := h
  simp only [Value.agg.injEq, Array.mk.injEq, List.cons.injEq, Value.bool.injEq, Value.slice.injEq, and_true] at e
  obtain ⟨rfl, rfl, rfl, rfl⟩ := e
  exact ⟨rfl, by rw [can_zero h4, h5]; omega, h1, h2⟩
/-- the rest with the divisor's sign -/
def RetM (w : World) (x y : Int) (e : Ending) (w' : World) : Prop := ∃ s A n c er, e = .returned (.tuple #[.agg #[.bool s, .slice A n c], .int .i64 er]) ∧
  ((y = 0 ∧ er = 12 ∧ IntV w' (.agg #[.bool s, .slice A n c]) 0) ∨ (y ≠ 0 ∧ er = 0 ∧ IntV w' (.agg #[.bool s, .slice A n c]) (modI x y))) ∧ Below w.heap.size w w'
theorem IntV.alloc {w : World} {v : Value} {z : Int} (h : IntV w v z) (o : Obj) : IntV (w.alloc o) v z := h.keep ((Below.refl _ _).alloc (Nat.le_refl _) _)
theorem retM_mk {w w3 : World} {x y zr : Int} {b : Bool} {A : Option Addr} {n c : Nat} {er : Int} (hv : IntV w3 (.agg #[.bool b, .slice A n c]) zr) (hb : Below w.heap.size w w3) (hc : (y = 0 ∧ er = 12 ∧ zr = 0) ∨ (y ≠ 0 ∧ er = 0 ∧ zr = modI x y)) :
    RetM w x y (.returned (.tuple #[.agg #[.bool b, .slice A n c], .int .i64 er])) w3 := by
  rcases hc with ⟨h1, h2, rfl⟩ | ⟨h1, h2, rfl⟩
  · exact ⟨b, A, n, c, er, rfl, .inl ⟨h1, h2, hv⟩, hb⟩
  · exact ⟨b, A, n, c, er, rfl, .inr ⟨h1, h2, hv⟩, hb⟩

end LM
end Go.Proofs.YtpoojlnndgoeoaaGreatDoor
