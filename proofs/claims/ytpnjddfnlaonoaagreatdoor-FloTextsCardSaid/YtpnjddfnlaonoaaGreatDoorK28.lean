/- Walks of package exact: Parse. -/
import Derived.Test.YtpnjddfnlaonoaaGreatDoorK27
import Derived.Test.YtpnjddfnlaonoaaGreatDoorK15
import Derived.Test.YtpnjddfnlaonoaaGreatDoorK18
import Derived.Lib.SmallJoins
import Derived.Test.YtpnjddfnlaonoaaGreatDoorK04
namespace Go.Proofs.YtpnjddfnlaonoaaGreatDoor
open Go.RowKit
namespace LM

theorem wrap_neg2 (m : Nat) (h1 : 1 ≤ m) (h2 : m ≤ 9223372036854775808) : IntKind.u64.wrap (-IntKind.u64.wrap (-(m : Int))) = (m : Int) := by
  go_arith
theorem str_cons (a : UInt8) (l : List UInt8) : (⟨#[a]⟩ ++ ⟨l.toArray⟩ : ByteArray) = ⟨(a :: l).toArray⟩ := by
  apply ByteArray.ext
  apply Array.ext'
  rw [Joins.data_append]
  rfl
theorem new1 (w : World) : Below w.heap.size w (w.alloc (.cells #[.bool false, .slice none 0 0] 36)) ∧ Bx (w.alloc (.cells #[.bool false, .slice none 0 0] 36)) w.heap.size false none 0 0 :=
  ⟨(Below.refl _ w).alloc (Nat.le_refl _) _, Bx.new w false none 0 0⟩

set_option maxRecDepth 100000 in
set_option maxHeartbeats 1000000 in
theorem eof_pos (m : Nat) (hm : m ≤ 9223372036854775807) (w : World) :
    Calls Tryz.prog 84 #[.int .i64 (m : Int)] w (RetI w (sg false m)) := by
  obtain ⟨hb0, x0⟩ := new1 w
  have HB0 := Lib.hid hb0
  have X0 := Lib.hid x0
  have H1 := Lib.hid (of_any m (w.alloc (.cells #[.bool false, .slice none 0 0] 36)) (by omega))
  have hneg : decide ((m : Int) < 0) = false := decide_eq_false (by omega)
  clear hb0 x0
  go_enter Tryz.func84, Tryz.ntmps84
  go_wp2_with fail
  refine H1.out.mono ?_
  rintro e w1 ⟨⟨v, rfl, hN⟩, hb1⟩
  obtain ⟨A1, c1, r1, rfl, hr1, hc1, hrd, hcan, hval⟩ := numW_of hN
  have X1 := Lib.hid (X0.out.below hb1)
  have HB1 := Lib.hid (HB0.out.trans (hb1.mono HB0.out.size))
  have HS := Lib.hid (signed_num false A1 c1 r1 w1 hr1 hc1 hrd hcan)
  rw [hval] at HS
  clear hN hrd hcan hb1 hval
  go_wp2_with fail
  refine HS.out.mono ?_
  rintro e w2 ⟨A2, n2, c2, rfl, hv, hb2⟩
  have X2 := Lib.hid (X1.out.below hb2)
  obtain ⟨q0, q1, z0, z1, zl⟩ := X2.out.facts
  have HB2 := Lib.hid (HB1.out.trans (hb2.mono HB1.out.size))
  have HV := Lib.hid hv
  clear hv hb2
  go_wp2
  obtain ⟨W3, hW3, Z, hb3, hv3, -, -, -⟩ := stored_world X2.out HB2.out (by omega) (decide (sg false m < 0)) A2 n2 c2
  rw [hW3]
  have HV3 := Lib.hid (hv3 _ _ HV.out)
  obtain ⟨c0, c1, -, -, -⟩ := Z.facts
  clear q0 q1 z0 z1 zl hW3 hv3
  refine bodyPost_ret (v := .agg #[.bool (decide (sg false m < 0)), .slice A2 n2 c2]) (by simp [results, Tryz.results84, go_sem, c0, c1]) rfl ?_
  exact ⟨_, _, _, rfl, HV3.out, hb3⟩

set_option maxRecDepth 100000 in
set_option maxHeartbeats 1000000 in
theorem eof_neg (m : Nat) (h1 : 1 ≤ m) (hm : m ≤ 9223372036854775808) (w : World) :
    Calls Tryz.prog 84 #[.int .i64 (-(m : Int))] w (RetI w (sg true m)) := by
  obtain ⟨hb0, x0⟩ := new1 w
  have HB0 := Lib.hid hb0
  have X0 := Lib.hid x0
  have H1 := Lib.hid (of_any m (w.alloc (.cells #[.bool false, .slice none 0 0] 36)) (by omega))
  have hneg : decide (-(m : Int) < 0) = true := decide_eq_true (by omega)
  clear hb0 x0
  go_enter Tryz.func84, Tryz.ntmps84
  go_wp2_with fail
  rw [wrap_neg2 m h1 hm]
  refine H1.out.mono ?_
  rintro e w1 ⟨⟨v, rfl, hN⟩, hb1⟩
  obtain ⟨A1, c1, r1, rfl, hr1, hc1, hrd, hcan, hval⟩ := numW_of hN
  have X1 := Lib.hid (X0.out.below hb1)
  have HB1 := Lib.hid (HB0.out.trans (hb1.mono HB0.out.size))
  have HS := Lib.hid (signed_num true A1 c1 r1 w1 hr1 hc1 hrd hcan)
  rw [hval] at HS
  clear hN hrd hcan hb1 hval
  go_wp2_with fail
  refine HS.out.mono ?_
  rintro e w2 ⟨A2, n2, c2, rfl, hv, hb2⟩
  have X2 := Lib.hid (X1.out.below hb2)
  obtain ⟨q0, q1, z0, z1, zl⟩ := X2.out.facts
  have HB2 := Lib.hid (HB1.out.trans (hb2.mono HB1.out.size))
  have HV := Lib.hid hv
  clear hv hb2
  go_wp2
  obtain ⟨W3, hW3, Z, hb3, hv3, -, -, -⟩ := stored_world X2.out HB2.out (by omega) (decide (sg true m < 0)) A2 n2 c2
  rw [hW3]
  have HV3 := Lib.hid (hv3 _ _ HV.out)
  obtain ⟨c0, c1, -, -, -⟩ := Z.facts
  clear q0 q1 z0 z1 zl hW3 hv3
  refine bodyPost_ret (v := .agg #[.bool (decide (sg true m < 0)), .slice A2 n2 c2]) (by simp [results, Tryz.results84, go_sem, c0, c1]) rfl ?_
  exact ⟨_, _, _, rfl, HV3.out, hb3⟩

/-- that of any int -/
theorem eof_int (z : Int) (h1 : -9223372036854775808 ≤ z) (h2 : z ≤ 9223372036854775807) (w : World) : Calls Tryz.prog 84 #[.int .i64 z] w (RetI w z) := by
  by_cases h : z < 0
  · obtain ⟨m, rfl⟩ : ∃ m : Nat, z = -(m : Int) := ⟨z.natAbs, by omega⟩
    have := eof_neg m (by omega) (by omega) w
    rw [show sg true m = -(m : Int) from rfl] at this
    exact this
  · obtain ⟨m, rfl⟩ : ∃ m : Nat, z = (m : Int) := ⟨z.natAbs, by omega⟩
    have := eof_pos m (by omega) w
    rw [show sg false m = (m : Int) from rfl] at this
    exact this

/-- a text: the bytes, and a - ahead of them -/
def decI (z : Int) : List UInt8 := if z < 0 then 45 :: Lib.decDigits z.natAbs else Lib.decDigits z.natAbs

theorem IntV.parts {w : World} {b : Bool} {A : Option Addr} {n c : Nat} {z : Int} (h : IntV w (.agg #[.bool b, .slice A n c]) z) : b = decide (z < 0) ∧ (n = 0 ↔ z = 0) ∧ n ≤ c ∧ c ≤ 9223372036854775807 := by
  obtain ⟨A', c', r, e, h1, h2, h3, h4, h5⟩ := h
  simp only [Value.agg.injEq, Array.mk.injEq, List.cons.injEq, Value.bool.injEq, Value.slice.injEq, and_true] at e
  obtain ⟨rfl, rfl, rfl, rfl⟩ := e
  exact ⟨rfl, by rw [can_zero h4, h5]; omega, h1, h2⟩
/-- the rest with the divisor's sign -/
def RetM (w : World) (x y : Int) (e : Ending) (w' : World) : Prop := ∃ s A n c er, e = .returned (.tuple #[.agg #[.bool s, .slice A n c], .int .i64 er]) ∧
  ((y = 0 ∧ er = 12 ∧ IntV w' (.agg #[.bool s, .slice A n c]) 0) ∨ (y ≠ 0 ∧ er = 0 ∧ IntV w' (.agg #[.bool s, .slice A n c]) (modI x y))) ∧ Below w.heap.size w w'
theorem IntV.alloc {w : World} {v : Value} {z : Int} (h : IntV w v z) (o : Obj) : IntV (w.alloc o) v z := h.keep ((Below.refl _ _).alloc (Nat.le_refl _) _)
end LM
end Go.Proofs.YtpnjddfnlaonoaaGreatDoor

namespace Go.Proofs.YtpnjddfnlaonoaaGreatDoor
open Go.RowKit
namespace LM
set_option linter.unusedVariables false

/-- what Small answers -/
def SmallE (x : Int) (e : Ending) : Prop := (-9223372036854775808 ≤ x ∧ x ≤ 9223372036854775807 ∧ e = .returned (.tuple #[.int .i64 x, .bool true])) ∨ (¬ (-9223372036854775808 ≤ x ∧ x ≤ 9223372036854775807) ∧ e = .returned (.tuple #[.int .i64 0, .bool false]))
theorem wrap_down (n : Nat) (h : n ≤ 9223372036854775808) : wrap64 (IntKind.u64.wrap (-(n : Int))) = -(n : Int) := by
  go_arith

set_option maxRecDepth 100000 in
set_option maxHeartbeats 2000000 in
theorem esmall_p1 (A : Option Addr) (ca : Nat) (xs : List Nat) (w : World) (ha : Rd w A xs) (hx : Can xs) (hca : xs.length ≤ ca) (hcam : ca ≤ 9223372036854775807) (h : val xs ≤ 9223372036854775807) :
    Calls Tryz.prog 147 #[.agg #[.bool false, .slice A xs.length ca]] w fun e w' => e = .returned (.tuple #[.int .i64 ((val xs : Nat) : Int), .bool true]) ∧ Below w.heap.size w w' := by
  have hb0 : Below w.heap.size w (w.alloc (.cells #[.bool false, .slice A xs.length ca] 36)) := (Below.refl _ w).alloc (Nat.le_refl _) _
  have HB0 := Lib.hid hb0
  have H1 := Lib.hid (small_any A ca xs _ (ha.below hb0) hx.1 hca hcam)
  clear hb0 ha hx
  generalize val xs = n at *
  have d1 : decide (n ≤ 9223372036854775807) = true := decide_eq_true (by omega)
  have d2 : decide ((n : Int) ≤ 9223372036854775807) = true := decide_eq_true (by omega)
  go_enter Tryz.func147, Tryz.ntmps147
  go_wp2_with fail
  refine H1.out.mono ?_
  rintro e w1 ⟨⟨h2, rfl⟩ | ⟨h2, rfl⟩, rfl⟩
  · clear h2
    go_wp2
    go_ret2
    exact ⟨rfl, HB0.out⟩
  · exact absurd h2 (by omega)

set_option maxRecDepth 100000 in
set_option maxHeartbeats 2000000 in
theorem esmall_p2 (A : Option Addr) (ca : Nat) (xs : List Nat) (w : World) (ha : Rd w A xs) (hx : Can xs) (hca : xs.length ≤ ca) (hcam : ca ≤ 9223372036854775807) (h : ¬ val xs ≤ 9223372036854775807) :
    Calls Tryz.prog 147 #[.agg #[.bool false, .slice A xs.length ca]] w fun e w' => e = .returned (.tuple #[.int .i64 0, .bool false]) ∧ Below w.heap.size w w' := by
  have hb0 : Below w.heap.size w (w.alloc (.cells #[.bool false, .slice A xs.length ca] 36)) := (Below.refl _ w).alloc (Nat.le_refl _) _
  have HB0 := Lib.hid hb0
  have H1 := Lib.hid (small_any A ca xs _ (ha.below hb0) hx.1 hca hcam)
  clear hb0 ha hx
  generalize val xs = n at *
  have d1 : decide (n ≤ 9223372036854775807) = false := decide_eq_false (by omega)
  have d2 : decide ((n : Int) ≤ 9223372036854775807) = false := decide_eq_false (by omega)
  go_enter Tryz.func147, Tryz.ntmps147
  go_wp2_with fail
  refine H1.out.mono ?_
  rintro e w1 ⟨⟨h2, rfl⟩ | ⟨h2, rfl⟩, rfl⟩
  · clear h2
    go_wp2
    go_ret2
    exact ⟨rfl, HB0.out⟩
  · clear h2
    go_wp2
    go_ret2
    exact ⟨rfl, HB0.out⟩

set_option maxRecDepth 100000 in
set_option maxHeartbeats 2000000 in
theorem esmall_n1 (A : Option Addr) (ca : Nat) (xs : List Nat) (w : World) (ha : Rd w A xs) (hx : Can xs) (hca : xs.length ≤ ca) (hcam : ca ≤ 9223372036854775807) (h : val xs ≤ 9223372036854775808) :
    Calls Tryz.prog 147 #[.agg #[.bool true, .slice A xs.length ca]] w fun e w' => e = .returned (.tuple #[.int .i64 (-((val xs : Nat) : Int)), .bool true]) ∧ Below w.heap.size w w' := by
  have hb0 : Below w.heap.size w (w.alloc (.cells #[.bool true, .slice A xs.length ca] 36)) := (Below.refl _ w).alloc (Nat.le_refl _) _
  have HB0 := Lib.hid hb0
  have H1 := Lib.hid (small_any A ca xs _ (ha.below hb0) hx.1 hca hcam)
  clear hb0 ha hx
  generalize val xs = n at *
  have d1 : decide (n ≤ 9223372036854775808) = true := decide_eq_true (by omega)
  have d2 : decide ((n : Int) ≤ 9223372036854775808) = true := decide_eq_true (by omega)
  have HW := Lib.hid (wrap_down n h)
  go_enter Tryz.func147, Tryz.ntmps147
  go_wp2_with fail
  refine H1.out.mono ?_
  rintro e w1 ⟨⟨h2, rfl⟩ | ⟨h2, rfl⟩, rfl⟩
  · clear h2
    go_wp2
    go_ret2
    exact ⟨by first | rfl | (rw [HW.out]; done) | (rw [HW.out]; rfl), HB0.out⟩
  · exact absurd h2 (by omega)

set_option maxRecDepth 100000 in
set_option maxHeartbeats 2000000 in
theorem esmall_n2 (A : Option Addr) (ca : Nat) (xs : List Nat) (w : World) (ha : Rd w A xs) (hx : Can xs) (hca : xs.length ≤ ca) (hcam : ca ≤ 9223372036854775807) (h : ¬ val xs ≤ 9223372036854775808) :
    Calls Tryz.prog 147 #[.agg #[.bool true, .slice A xs.length ca]] w fun e w' => e = .returned (.tuple #[.int .i64 0, .bool false]) ∧ Below w.heap.size w w' := by
  have hb0 : Below w.heap.size w (w.alloc (.cells #[.bool true, .slice A xs.length ca] 36)) := (Below.refl _ w).alloc (Nat.le_refl _) _
  have HB0 := Lib.hid hb0
  have H1 := Lib.hid (small_any A ca xs _ (ha.below hb0) hx.1 hca hcam)
  clear hb0 ha hx
  generalize val xs = n at *
  have d1 : decide (n ≤ 9223372036854775808) = false := decide_eq_false (by omega)
  have d2 : decide ((n : Int) ≤ 9223372036854775808) = false := decide_eq_false (by omega)
  go_enter Tryz.func147, Tryz.ntmps147
  go_wp2_with fail
  refine H1.out.mono ?_
  rintro e w1 ⟨⟨h2, rfl⟩ | ⟨h2, rfl⟩, rfl⟩
  · clear h2
    go_wp2
    go_ret2
    exact ⟨rfl, HB0.out⟩
  · clear h2
    go_wp2
    go_ret2
    exact ⟨rfl, HB0.out⟩

theorem esmall_int {va : Value} {x : Int} {w : World} (ha : IntV w va x) : Calls Tryz.prog 147 #[va] w fun e w' => SmallE x e ∧ Below w.heap.size w w' := by
  obtain ⟨A, ca, xs, rfl, h1, h2, h3, h4, h5⟩ := ha
  by_cases hn : x < 0
  · rw [decide_eq_true hn]
    by_cases h : val xs ≤ 9223372036854775808
    · exact (esmall_n1 A ca xs w h3 h4 h1 h2 h).mono fun e w' ⟨he, hb⟩ => ⟨.inl ⟨by omega, by omega, by rw [he, show -((val xs : Nat) : Int) = x by omega]⟩, hb⟩
    · exact (esmall_n2 A ca xs w h3 h4 h1 h2 h).mono fun e w' ⟨he, hb⟩ => ⟨.inr ⟨by omega, he⟩, hb⟩
  · rw [decide_eq_false hn]
    by_cases h : val xs ≤ 9223372036854775807
    · exact (esmall_p1 A ca xs w h3 h4 h1 h2 h).mono fun e w' ⟨he, hb⟩ => ⟨.inl ⟨by omega, by omega, by rw [he, show ((val xs : Nat) : Int) = x by omega]⟩, hb⟩
    · exact (esmall_p2 A ca xs w h3 h4 h1 h2 h).mono fun e w' ⟨he, hb⟩ => ⟨.inr ⟨by omega, he⟩, hb⟩

end LM
end Go.Proofs.YtpnjddfnlaonoaaGreatDoor

namespace Go.Proofs.YtpnjddfnlaonoaaGreatDoor
open Go.RowKit
namespace LM

theorem RetI.gen {w w' : World} {z : Int} {e : Ending} (h : RetI w z e w') : ∃ s A n c, e = .returned (.agg #[.bool s, .slice A n c]) ∧ IntV w' (.agg #[.bool s, .slice A n c]) z ∧ Below w.heap.size w w' := by
  obtain ⟨A, n, c, h1, h2, h3⟩ := h
  exact ⟨_, A, n, c, h1, h2, h3⟩
theorem small_not_big {z : Int} (h : z.natAbs < 18446744073709551616 * 4294967296) : ¬ BigI z := by
  intro hb
  have h1 : 4294967296 ^ 3 ≤ 4294967296 ^ 64 := Nat.pow_le_pow_right (by decide) (by decide)
  have h2 : (4294967296 : Nat) ^ 3 = 18446744073709551616 * 4294967296 := by decide
  unfold BigI BIG at hb
  omega
end LM
end Go.Proofs.YtpnjddfnlaonoaaGreatDoor

namespace Go.Proofs.YtpnjddfnlaonoaaGreatDoor
open Go.RowKit
namespace LM
set_option linter.unusedVariables false

/-- the sign of a text, and what is behind it -/
def signOf (l : List UInt8) : Bool × List UInt8 := if Lib.hasPrefix l [45] then (true, Lib.trimPrefix l [45]) else (false, Lib.trimPrefix l [43])
/-- what a text's reading comes to -/
def POut (l : List UInt8) (z er : Int) : Prop := (¬ OkText (signOf l).2 ∧ z = 0 ∧ er = 13) ∨ (OkText (signOf l).2 ∧ BIG (dval 0 (signOf l).2) ∧ z = 0 ∧ er = 11) ∨ (OkText (signOf l).2 ∧ ¬ BIG (dval 0 (signOf l).2) ∧ z = sg (signOf l).1 (dval 0 (signOf l).2) ∧ er = 0)
end LM
end Go.Proofs.YtpnjddfnlaonoaaGreatDoor
