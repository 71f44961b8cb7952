/- Walks of package exact: Small. -/
import Derived.Test.YtfckjapedjjhpaaDoorExactF
import Derived.Test.YtfckjapedjjhpaaDoorLimbT
namespace Go.Proofs.YtfckjapedjjhpaaDoor
open Go.RowKit
namespace LM
set_option linter.unusedVariables false

/-- what Small answers -/
def SmallE (x : Int) (e : Ending) : Prop := (-9223372036854775808 ≤ x ∧ x ≤ 9223372036854775807 ∧ e = .returned (.tuple #[.int .i64 x, .bool true])) ∨ (¬ (-9223372036854775808 ≤ x ∧ x ≤ 9223372036854775807) ∧ e = .returned (.tuple #[.int .i64 0, .bool false]))
theorem wrap_down (n : Nat) (h : n ≤ 9223372036854775808) : wrap64 (IntKind.u64.wrap (-(n : Int))) = -(n : Int) := by
  go_arith

set_option maxRecDepth 100000 in
set_option maxHeartbeats 2000000 in
theorem esmall_p1 (A : Option Addr) (ca : Nat) (xs : List Nat) (w : World) (ha : Rd w A xs) (hx : Can xs) (hca : xs.length ≤ ca) (hcam : ca ≤ 9223372036854775807) (h : val xs ≤ 9223372036854775807) :
    Calls Tryd.prog 19 #[.agg #[.bool false, .slice A xs.length ca]] w fun e w' => e = .returned (.tuple #[.int .i64 ((val xs : Nat) : Int), .bool true]) ∧ Below w.heap.size w w' := by
  have hb0 : Below w.heap.size w (w.alloc (.cells #[.bool false, .slice A xs.length ca] 24)) := (Below.refl _ w).alloc (Nat.le_refl _) _
  have HB0 := Lib.hid hb0
  have H1 := Lib.hid (small_any A ca xs _ (ha.below hb0) hx.1 hca hcam)
  clear hb0 ha hx
  generalize val xs = n at *
  have d1 : decide (n ≤ 9223372036854775807) = true := decide_eq_true (by omega)
  have d2 : decide ((n : Int) ≤ 9223372036854775807) = true := decide_eq_true (by omega)
  go_enter Tryd.func19, Tryd.ntmps19
  go_wp2_with fail
  refine H1.out.mono ?_
  rintro e w1 ⟨⟨h2, rfl⟩ | ⟨h2, rfl⟩, rfl⟩
  · clear h2
    go_wp2
    go_ret2
    exact ⟨rfl, HB0.out⟩
  · exact absurd h2 (by omega)

set_option maxRecDepth 100000 in
set_option maxHeartbeats 2000000 in
theorem esmall_p2 (A : Option Addr) (ca : Nat) (xs : List Nat) (w : World) (ha : Rd w A xs) (hx : Can xs) (hca : xs.length ≤ ca) (hcam : ca ≤ 9223372036854775807) (h : ¬ val xs ≤ 9223372036854775807) :
    Calls Tryd.prog 19 #[.agg #[.bool false, .slice A xs.length ca]] w fun e w' => e = .returned (.tuple #[.int .i64 0, .bool false]) ∧ Below w.heap.size w w' := by
  have hb0 : Below w.heap.size w (w.alloc (.cells #[.bool false, .slice A xs.length ca] 24)) := (Below.refl _ w).alloc (Nat.le_refl _) _
  have HB0 := Lib.hid hb0
  have H1 := Lib.hid (small_any A ca xs _ (ha.below hb0) hx.1 hca hcam)
  clear hb0 ha hx
  generalize val xs = n at *
  have d1 : decide (n ≤ 9223372036854775807) = false := decide_eq_false (by omega)
  have d2 : decide ((n : Int) ≤ 9223372036854775807) = false := decide_eq_false (by omega)
  go_enter Tryd.func19, Tryd.ntmps19
  go_wp2_with fail
  refine H1.out.mono ?_
  rintro e w1 ⟨⟨h2, rfl⟩ | ⟨h2, rfl⟩, rfl⟩
  · clear h2
    go_wp2
    go_ret2
    exact ⟨rfl, HB0.out⟩
  · clear h2
    go_wp2
    go_ret2
    exact ⟨rfl, HB0.out⟩

set_option maxRecDepth 100000 in
set_option maxHeartbeats 2000000 in
theorem esmall_n1 (A : Option Addr) (ca : Nat) (xs : List Nat) (w : World) (ha : Rd w A xs) (hx : Can xs) (hca : xs.length ≤ ca) (hcam : ca ≤ 9223372036854775807) (h : val xs ≤ 9223372036854775808) :
    Calls Tryd.prog 19 #[.agg #[.bool true, .slice A xs.length ca]] w fun e w' => e = .returned (.tuple #[.int .i64 (-((val xs : Nat) : Int)), .bool true]) ∧ Below w.heap.size w w' := by
  have hb0 : Below w.heap.size w (w.alloc (.cells #[.bool true, .slice A xs.length ca] 24)) := (Below.refl _ w).alloc (Nat.le_refl _) _
  have HB0 := Lib.hid hb0
  have H1 := Lib.hid (small_any A ca xs _ (ha.below hb0) hx.1 hca hcam)
  clear hb0 ha hx
  generalize val xs = n at *
  have d1 : decide (n ≤ 9223372036854775808) = true := decide_eq_true (by omega)
  have d2 : decide ((n : Int) ≤ 9223372036854775808) = true := decide_eq_true (by omega)
  have HW := Lib.hid (wrap_down n h)
  go_enter Tryd.func19, Tryd.ntmps19
  go_wp2_with fail
  refine H1.out.mono ?_
  rintro e w1 ⟨⟨h2, rfl⟩ | ⟨h2, rfl⟩, rfl⟩
  · clear h2
    go_wp2
    go_ret2
    exact ⟨by first | rfl | (rw [HW.out]; done) | (rw [HW.out]; rfl), HB0.out⟩
  · exact absurd h2 (by omega)

set_option maxRecDepth 100000 in
set_option maxHeartbeats 2000000 in
theorem esmall_n2 (A : Option Addr) (ca : Nat) (xs : List Nat) (w : World) (ha : Rd w A xs) (hx : Can xs) (hca : xs.length ≤ ca) (hcam : ca ≤ 9223372036854775807) (h : ¬ val xs ≤ 9223372036854775808) :
    Calls Tryd.prog 19 #[.agg #[.bool true, .slice A xs.length ca]] w fun e w' => e = .returned (.tuple #[.int .i64 0, .bool false]) ∧ Below w.heap.size w w' := by
  have hb0 : Below w.heap.size w (w.alloc (.cells #[.bool true, .slice A xs.length ca] 24)) := (Below.refl _ w).alloc (Nat.le_refl _) _
  have HB0 := Lib.hid hb0
  have H1 := Lib.hid (small_any A ca xs _ (ha.below hb0) hx.1 hca hcam)
  clear hb0 ha hx
  generalize val xs = n at *
  have d1 : decide (n ≤ 9223372036854775808) = false := decide_eq_false (by omega)
  have d2 : decide ((n : Int) ≤ 9223372036854775808) = false := decide_eq_false (by omega)
  go_enter Tryd.func19, Tryd.ntmps19
  go_wp2_with fail
  refine H1.out.mono ?_
  rintro e w1 ⟨⟨h2, rfl⟩ | ⟨h2, rfl⟩, rfl⟩
  · clear h2
    go_wp2
    go_ret2
    exact ⟨rfl, HB0.out⟩
  · clear h2
    go_wp2
    go_ret2
    exact ⟨rfl, HB0.out⟩

theorem esmall_int {va : Value} {x : Int} {w : World} (ha : IntV w va x) : Calls Tryd.prog 19 #[va] w fun e w' => SmallE x e ∧ Below w.heap.size w w' := by
  obtain ⟨A, ca, xs, rfl, h1, h2, h3, h4, h5⟩ := ha
  by_cases hn : x < 0
  · rw [decide_eq_true hn]
    by_cases h : val xs ≤ 9223372036854775808
    · exact (esmall_n1 A ca xs w h3 h4 h1 h2 h).mono fun e w' ⟨he, hb⟩ => ⟨.inl ⟨by omega, by omega, by rw [he, show -((val xs : Nat) : Int) = x by omega]⟩, hb⟩
    · exact (esmall_n2 A ca xs w h3 h4 h1 h2 h).mono fun e w' ⟨he, hb⟩ => ⟨.inr ⟨by omega, he⟩, hb⟩
  · rw [decide_eq_false hn]
    by_cases h : val xs ≤ 9223372036854775807
    · exact (esmall_p1 A ca xs w h3 h4 h1 h2 h).mono fun e w' ⟨he, hb⟩ => ⟨.inl ⟨by omega, by omega, by rw [he, show ((val xs : Nat) : Int) = x by omega]⟩, hb⟩
    · exact (esmall_p2 A ca xs w h3 h4 h1 h2 h).mono fun e w' ⟨he, hb⟩ => ⟨.inr ⟨by omega, he⟩, hb⟩

end LM
end Go.Proofs.YtfckjapedjjhpaaDoor
