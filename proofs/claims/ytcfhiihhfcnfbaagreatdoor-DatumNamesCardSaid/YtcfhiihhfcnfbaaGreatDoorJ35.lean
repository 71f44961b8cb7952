/- Walks: order and sameness of two numbers, second part: floating ones; sameness; an int's number. -/
import Derived.Test.YtcfhiihhfcnfbaaGreatDoorJ30
import Derived.Test.YtcfhiihhfcnfbaaGreatDoorJ33
import Derived.Test.YtcfhiihhfcnfbaaGreatDoorJ09
import Derived.Test.YtcfhiihhfcnfbaaGreatDoorJ34
import Derived.Test.YtcfhiihhfcnfbaaGreatDoorJ21
import Derived.Test.YtcfhiihhfcnfbaaGreatDoorJ10
import Derived.Test.YtcfhiihhfcnfbaaGreatDoorJ28
import Derived.Deep.RegionHeld3
import Derived.LoopTactic
import Derived.Deep.LoopGhost
import Derived.Test.YtcfhiihhfcnfbaaGreatDoorJ36
import Derived.Test.YtcfhiihhfcnfbaaGreatDoorJ39
namespace Go.Proofs.YtcfhiihhfcnfbaaGreatDoor
open Go Go.RowKit
namespace LM
set_option linter.unusedVariables false

theorem sv_sg (s : Bool) (m : Nat) (e : Int) : sv s m e = sg s (m * 2 ^ (e + 1074).toNat) := by
  unfold sv sg; rfl

/-- the whole number below -/
def floorQ (s : Bool) (m P : Nat) : Nat := m / P + (s && decide (m % P ≠ 0)).toNat
theorem floor_ineq (s : Bool) (m P V : Nat) (hP : 0 < P) (hV : 0 < V) :
    sg s (floorQ s m P) * ((P * V : Nat) : Int) ≤ sg s (m * V) ∧ sg s (m * V) < (sg s (floorQ s m P) + 1) * ((P * V : Nat) : Int) := by
  have h1 : m = P * (m / P) + m % P := (Nat.div_add_mod m P).symm
  have h2 : m % P < P := Nat.mod_lt _ hP
  unfold floorQ
  generalize m / P = q at *
  generalize m % P = r at *
  have hVi : (0 : Int) < (V : Int) := by omega
  have key : sg s (q + (s && decide (r ≠ 0)).toNat) * (P : Int) ≤ sg s m ∧ sg s m < (sg s (q + (s && decide (r ≠ 0)).toNat) + 1) * (P : Int) := by
    have hmi : (m : Int) = (P : Int) * (q : Int) + (r : Int) := by rw [h1]; push_cast; rfl
    cases s
    · show ((q + (false && decide (r ≠ 0)).toNat : Nat) : Int) * (P : Int) ≤ (m : Int) ∧ (m : Int) < (((q + (false && decide (r ≠ 0)).toNat : Nat) : Int) + 1) * (P : Int)
      rw [show (false && decide (r ≠ 0)).toNat = 0 from rfl, Nat.add_zero, Int.add_mul, Int.mul_comm (q : Int), Int.one_mul, hmi]
      omega
    · show -((q + (true && decide (r ≠ 0)).toNat : Nat) : Int) * (P : Int) ≤ -(m : Int) ∧ -(m : Int) < (-((q + (true && decide (r ≠ 0)).toNat : Nat) : Int) + 1) * (P : Int)
      by_cases hr : r = 0
      · rw [show (true && decide (r ≠ 0)).toNat = 0 from by rw [Bool.true_and, decide_eq_false (by omega)]; rfl, Nat.add_zero, Int.add_mul, Int.neg_mul, Int.mul_comm (q : Int), Int.one_mul, hmi]
        omega
      · rw [show (true && decide (r ≠ 0)).toNat = 1 from by rw [Bool.true_and, decide_eq_true hr]; rfl, Int.add_mul, Int.neg_mul, Int.natCast_add, Int.add_mul, Int.mul_comm (q : Int), show ((1 : Nat) : Int) = 1 from rfl, Int.one_mul, hmi]
        omega
  have e1 : sg s (m * V) = sg s m * (V : Int) := by
    cases s
    · show ((m * V : Nat) : Int) = (m : Int) * (V : Int); push_cast; rfl
    · show -((m * V : Nat) : Int) = -(m : Int) * (V : Int); push_cast; rw [Int.neg_mul]
  rw [e1, Int.natCast_mul, ← Int.mul_assoc, ← Int.mul_assoc]
  exact ⟨Int.mul_le_mul_of_nonneg_right key.1 (by omega), Int.mul_lt_mul_of_pos_right key.2 hVi⟩

theorem cmp_floor (x z U F : Int) (hU : 0 < U) (h1 : z * U ≤ F) (h2 : F < (z + 1) * U) : cmpI (x * U) F = if x = z ∧ z * U < F then -1 else cmpI x z := by
  rcases Int.lt_trichotomy x z with h | h | h
  · have h3 : x * U < z * U := Int.mul_lt_mul_of_pos_right h hU
    rw [if_neg (by omega), cmpI_lt h, cmpI_lt (by omega)]
  · subst h
    by_cases h3 : x * U < F
    · rw [if_pos ⟨rfl, h3⟩, cmpI_lt h3]
    · rw [if_neg (by omega), cmpI_eq rfl, cmpI_eq (by omega)]
  · have h3 : (z + 1) * U ≤ x * U := Int.mul_le_mul_of_nonneg_right (by omega) (by omega)
    rw [if_neg (by omega), cmpI_gt h, cmpI_gt (by omega)]

theorem order_ne {s : Bool} {m : Nat} {e : Int} (h : CanF m e) : (FloatKind.f64.format.order (wordF s m e) (wordF s m e) != some .eq) = false := by
  have h1 := order_self (wordF s m e) (can_lt h)
  rw [if_neg (can_nan h)] at h1
  show (Ieee.double.order (wordF s m e) (wordF s m e) != some .eq) = false
  rw [h1]
  rfl

theorem toIntVal_of {b : Nat} {d : Ieee.Datum} {z : Int} (hd : FloatKind.f64.decode b = d) (ht : d.toInt .zero = some z) (h1 : -9223372036854775808 ≤ z) (h2 : z ≤ 9223372036854775807) : floatToIntVal .f64 b .i64 = some z := by
  unfold floatToIntVal
  rw [hd, ht]
  show (if IntKind.i64.min ≤ z ∧ z ≤ IntKind.i64.max then some z else none) = some z
  exact if_pos ⟨h1, h2⟩
theorem signed_zero (s : Bool) (q : Nat) : Ieee.signed s q 0 = sg s q := by
  unfold Ieee.signed sg
  rw [Nat.shiftLeft_zero]
theorem sg_bounds (s : Bool) (q : Nat) (hq : q < 9007199254740992) : -9223372036854775808 ≤ sg s q ∧ sg s q ≤ 9223372036854775807 := by
  cases s
  · show -9223372036854775808 ≤ (q : Int) ∧ (q : Int) ≤ 9223372036854775807; omega
  · show -9223372036854775808 ≤ -(q : Int) ∧ -(q : Int) ≤ 9223372036854775807; omega
theorem toInt_num (s : Bool) (m : Nat) (e : Int) : (Ieee.Datum.number s m e).toInt .zero = some (Ieee.signed s (Ieee.Toward.cut .zero s (m <<< e.toNat) (-e).toNat) 0) := rfl
theorem toInt_up {s : Bool} {m : Nat} {e : Int} (h : CanF m e) (he : e = 0) : floatToIntVal .f64 (wordF s m e) .i64 = some (sg s m) := by
  refine toIntVal_of (read_word h) ?_ (sg_bounds s m h.1).1 (sg_bounds s m h.1).2
  subst he
  rw [toInt_num, show (-(0 : Int)).toNat = 0 from rfl, cut_zero, show (0 : Int).toNat = 0 from rfl, Nat.shiftLeft_zero, signed_zero]
theorem toInt_down {s : Bool} {q k : Nat} (hq : q < 9007199254740992) (h : CanF (q * 2 ^ k) (-(k : Int))) : floatToIntVal .f64 (wordF s (q * 2 ^ k) (-(k : Int))) .i64 = some (sg s q) := by
  refine toIntVal_of (read_word h) ?_ (sg_bounds s q hq).1 (sg_bounds s q hq).2
  rw [toInt_num, show (-(-(k : Int))).toNat = k from by omega, show (-(k : Int)).toNat = 0 from by omega, Nat.shiftLeft_zero, cut_eq, Nat.mul_div_cancel _ (Nat.two_pow_pos _), signed_zero]
  rfl

/-- the exact number of a floating one without digits behind the point -/
theorem floexact_up {s : Bool} {m : Nat} {e : Int} (h : CanF m e) (he : 0 ≤ e) (w : World) : Calls Tryz.prog 43 #[.float .f64 (wordF s m e)] w (RetE w (sg s m * ((2 ^ e.toNat : Nat) : Int))) := by
  have hn : 4503599627370496 ≤ m := by
    rcases h.2.2.2 with h1 | h1
    · exact h1
    · omega
  have h3 := h.2.2.1
  refine floexact_raw (wordF s m e) (wordF s m (e + -e)) (e + 53) (sg s m) e.toNat w (can_lt h) (can_inf h) (fun W => ?_) (order_ne h) (fun W => (frexp_can h hn W).mono fun r w' ⟨⟨y, h1⟩, h2⟩ => ⟨⟨y, h1⟩, h2⟩) (by omega) (by omega) (by omega) (fun W => ?_) ?_ ?_
  · have ht := trunc_can (s := s) h W
    have hi := integral_up .zero (s := s) h he
    rw [read_word h] at hi
    rw [hi] at ht
    exact ht.mono fun r w' ⟨h1, h2⟩ => ⟨h1, h2⟩
  · rw [show ((e.toNat : Nat) : Int) = e from by omega]
    exact ldexp_can (s := s) h hn (-e) (by omega) (by omega) W
  · have hz : e + -e = 0 := by omega
    exact toInt_up ⟨h.1, by omega, by omega, .inl hn⟩ hz
  · have := h.1
    unfold sg
    split <;> omega
theorem floexact_down (s : Bool) (q k : Nat) (hk : k ≤ 52) (hq : q < 9007199254740992) (h : CanF (q * 2 ^ k) (-(k : Int))) (hn : 4503599627370496 ≤ q * 2 ^ k) (he : Ieee.double.nearest s q 0 = wordF s (q * 2 ^ k) (-(k : Int))) (w : World) :
    Calls Tryz.prog 43 #[.float .f64 (wordF s (q * 2 ^ k) (-(k : Int)))] w (RetE w (sg s q * ((2 ^ 0 : Nat) : Int))) := by
  refine floexact_raw _ (wordF s (q * 2 ^ k) (-(k : Int) + 0)) (-(k : Int) + 53) (sg s q) 0 w (can_lt h) (can_inf h) (fun W => ?_) (order_ne h) (fun W => (frexp_can h hn W).mono fun r w' ⟨⟨y, h1⟩, h2⟩ => ⟨⟨y, h1⟩, h2⟩) (by omega) (by omega) (by decide) (fun W => ?_) ?_ ?_
  · rcases Nat.eq_zero_or_pos k with hk0 | hk0
    · have ht := trunc_can (s := s) h W
      have hi := integral_up .zero (s := s) h (by omega)
      rw [read_word h] at hi
      rw [hi] at ht
      exact ht.mono fun r w' ⟨h1, h2⟩ => ⟨h1, h2⟩
    · have ht := trunc_can (s := s) h W
      have hi := integral_down .zero (s := s) h (by omega)
      rw [read_word h, show (-(-(k : Int))).toNat = k from by omega, Nat.mul_div_cancel _ (Nat.two_pow_pos _)] at hi
      rw [hi] at ht
      simp only [moreB, Bool.toNat_false, Nat.add_zero] at ht
      rw [he] at ht
      exact ht.mono fun r w' ⟨h1, h2⟩ => ⟨h1, h2⟩
  · exact ldexp_can (s := s) h hn 0 (by omega) (by omega) W
  · rw [Int.add_zero]
    exact toInt_down hq h
  · unfold sg
    split <;> omega
theorem floexact_zero (s : Bool) (w : World) : Calls Tryz.prog 43 #[.float .f64 (wordF s 0 (-1074))] w (RetE w (0 * ((2 ^ 0 : Nat) : Int))) := by
  have hc : CanF 0 (-1074) := by unfold CanF; decide
  refine floexact_raw _ (wordF s 0 (-1074)) 0 0 0 w (can_lt hc) (can_inf hc) (fun W => ?_) (order_ne hc) (fun W => frexp_zero s W) (by omega) (by decide) (by decide) (fun W => ldexp_zero s _ W) ?_ (by decide)
  · have ht := trunc_can (s := s) hc W
    have hi := integral_down .zero (s := s) hc (by decide)
    rw [read_word hc] at hi
    rw [hi, Nat.zero_div, Nat.zero_mod] at ht
    simp only [moreB, Bool.toNat_false, Nat.add_zero] at ht
    rw [nearest_zero] at ht
    exact ht.mono fun r w' ⟨h1, h2⟩ => ⟨h1, h2⟩
  · cases s
    · decide
    · decide

end LM
end Go.Proofs.YtcfhiihhfcnfbaaGreatDoor

namespace Go.Proofs.YtcfhiihhfcnfbaaGreatDoor
open Go Go.RowKit
namespace LM
set_option linter.unusedVariables false

set_option maxRecDepth 100000 in
set_option maxHeartbeats 2000000 in
theorem flocmp_raw (x z : Int) (b F : Nat) (t : Bool) (v : Value) (w : World) (hv : IntV w v x) (nx : ¬ BigI x) (nz : ¬ BigI z) (hb : b < 18446744073709551616) (hn : ¬ nanW b)
    (hp : (FloatKind.f64.format.order b 9218868437227405311 == some .gt) = false) (hm : (FloatKind.f64.format.order (Op.negFloat .f64 b) 9218868437227405311 == some .gt) = false)
    (hF : ∀ W, Calls Tryz.prog 120 #[.float .f64 b] W fun e w' => e = .returned (.float .f64 F) ∧ W = w')
    (hE : ∀ W, Calls Tryz.prog 43 #[.float .f64 F] W (RetE W z)) (ht : (FloatKind.f64.format.order F b == some .lt) = t) :
    Calls Tryz.prog 66 #[v, .float .f64 b] w fun e w' => e = .returned (.tuple #[.int .i64 (if x = z ∧ t = true then -1 else cmpI x z), .bool true]) ∧ Below w.heap.size w w' := by
  obtain ⟨A, n, c, rfl, hnc, hcm⟩ := hv.open
  obtain ⟨res, hres⟩ : ∃ res : Int, (if x = z ∧ t = true then -1 else cmpI x z) = res := ⟨_, rfl⟩
  rw [hres]
  have HR := Lib.hid hres
  clear hres
  have N1 := Lib.hid fun W => isNaN_any b W hb
  rw [show decide (nanW b) = false from decide_eq_false hn] at N1
  have P1 := Lib.hid fun W => isInf_pos b W false hp
  have P2 := Lib.hid fun W => isInf_neg b W false hm
  have FL := Lib.hid hF
  have EX := Lib.hid hE
  have NX := Lib.hid nx
  have NZ := Lib.hid nz
  obtain ⟨s, hs⟩ : ∃ s, decide (x < 0) = s := ⟨_, rfl⟩
  rw [hs] at hv ⊢
  have X0 := Lib.hid (Bx.new w s A n c)
  have V0 := Lib.hid (hv.alloc (.cells #[.bool s, .slice A n c] 36))
  have HB0 : Hid (Below w.heap.size w (w.alloc (.cells #[.bool s, .slice A n c] 36))) := Lib.hid ((Below.refl _ w).alloc (Nat.le_refl _) _)
  clear hn hp hm hF hE nx nz hv hs
  go_enter Tryz.func66, Tryz.ntmps66
  go_wp2_with (fail)
  refine (N1.out _).mono ?_
  rintro e w' ⟨rfl, rfl⟩
  go_wp2_with (fail)
  refine (P1.out _).mono ?_
  rintro e w' ⟨rfl, rfl⟩
  go_wp2_with (fail)
  refine (P2.out _).mono ?_
  rintro e w' ⟨rfl, rfl⟩
  go_wp2_with (fail)
  refine (FL.out _).mono ?_
  rintro e w' ⟨rfl, rfl⟩
  go_wp2_with (fail)
  refine (EX.out _).mono ?_
  intro e w1 hr
  obtain ⟨s1, A1, n1, c1, er, zr, rfl, hv1, ho, hb1⟩ := hr.out
  obtain ⟨rfl, rfl⟩ : zr = z ∧ er = 0 := by
    rcases ho with ⟨h, _⟩ | ⟨_, h1, h2⟩
    · exact absurd h NZ.out
    · first | exact ⟨h1, h2⟩ | exact ⟨h2, h1⟩
  have X1 := Lib.hid ((X0.out.below hb1).alloc (.cells #[.bool s1, .slice A1 n1 c1] 36))
  have V1 := Lib.hid ((V0.out.keep hb1).alloc (.cells #[.bool s1, .slice A1 n1 c1] 36))
  have U1 := Lib.hid (hv1.alloc (.cells #[.bool s1, .slice A1 n1 c1] 36))
  have hbk := bel_trans (B := w.heap.size) HB0.out hb1
  have HB1 := Lib.hid (hbk.alloc hbk.size (.cells #[.bool s1, .slice A1 n1 c1] 36))
  have hc1 := ecmp_int V1.out U1.out NX.out NZ.out
  have hz := cmpI_zero (x := x) (y := zr)
  have hres2 := HR.out
  obtain ⟨o, hoo⟩ : ∃ o, cmpI x zr = o := ⟨_, rfl⟩
  rw [hoo] at hc1 hz hres2
  have C1 := Lib.hid hc1
  have HR2 := Lib.hid hres2
  clear hoo HR hc1 hres2
  obtain ⟨q0, q1, -, -, ql⟩ := (X0.out.below hb1).facts
  clear hr ho hv1 hb1 hbk
  by_cases hxz : x = zr
  · rw [decide_eq_true hxz] at hz
    have HXZ := Lib.hid hxz
    clear hxz
    cases t
    · go_wp2_with (fail)
      refine C1.out.mono ?_
      rintro e w2 ⟨rfl, hb2⟩
      have HB2 := Lib.hid (bel_trans (B := w.heap.size) HB1.out hb2)
      clear hb2 q0 q1 ql
      go_wp2_with (fail)
      go_ret2
      have hr3 := HR2.out
      rw [if_neg (fun h => by cases h.2)] at hr3
      subst hr3
      exact ⟨rfl, HB2.out⟩
    · go_wp2_with (fail)
      refine C1.out.mono ?_
      rintro e w2 ⟨rfl, hb2⟩
      have HB2 := Lib.hid (bel_trans (B := w.heap.size) HB1.out hb2)
      clear hb2 q0 q1 ql
      go_wp2_with (fail)
      go_ret2
      have hr3 := HR2.out
      rw [if_pos ⟨HXZ.out, by first | rfl | trivial⟩] at hr3
      subst hr3
      exact ⟨rfl, HB2.out⟩
  · rw [decide_eq_false hxz] at hz
    have HXZ := Lib.hid hxz
    clear hxz
    go_wp2_with (fail)
    refine C1.out.mono ?_
    rintro e w2 ⟨rfl, hb2⟩
    have HB2 := Lib.hid (bel_trans (B := w.heap.size) HB1.out hb2)
    clear hb2 q0 q1 ql
    go_wp2_with (fail)
    go_ret2
    have hr3 := HR2.out
    rw [if_neg (fun h => HXZ.out h.1)] at hr3
    subst hr3
    exact ⟨rfl, HB2.out⟩

/-- one, in units of the least place -/
def unit : Int := sv false 1 0
theorem unit_pow : unit = ((2 ^ ((0 : Int) + 1074).toNat : Nat) : Int) := by
  unfold unit
  rw [sv_false, Nat.one_mul]
theorem unit_pos : 0 < unit := by
  rw [unit_pow]
  have : 0 < 2 ^ ((0 : Int) + 1074).toNat := Nat.two_pow_pos _
  omega
theorem unit_split (d : Nat) (hd : d ≤ 1074) : unit = ((2 ^ d * 2 ^ (-(d : Int) + 1074).toNat : Nat) : Int) := by
  rw [unit_pow, ← Nat.pow_add]
  congr 2
  omega
theorem sg_mul_nat (s : Bool) (a b : Nat) : sg s (a * b) = sg s a * (b : Int) := by
  cases s
  · show ((a * b : Nat) : Int) = (a : Int) * (b : Int); push_cast; rfl
  · show -((a * b : Nat) : Int) = -(a : Int) * (b : Int); push_cast; rw [Int.neg_mul]
theorem sv_up (s : Bool) (m : Nat) (e : Int) (he : 0 ≤ e) : sg s m * ((2 ^ e.toNat : Nat) : Int) * unit = sv s m e := by
  rw [sv_sg, unit_pow, show (e + 1074).toNat = e.toNat + ((0 : Int) + 1074).toNat from by omega, Nat.pow_add, ← Nat.mul_assoc, sg_mul_nat, sg_mul_nat]
theorem sv_whole (s : Bool) (q k : Nat) (hk : k ≤ 1074) : sv s (q * 2 ^ k) (-(k : Int)) = sg s q * unit := by
  rw [sv_sg, Nat.mul_assoc, sg_mul_nat, unit_split k hk]

theorem lt_num {s t : Bool} {m n : Nat} {e j : Int} (h : CanF m e) (k : CanF n j) : (FloatKind.f64.format.order (wordF s m e) (wordF t n j) == some .lt) = decide (sv s m e < sv t n j) := by
  rw [d_fmt, order_num h k, cmp_lt]

theorem flocmp_can {s : Bool} {m : Nat} {e : Int} (h : CanF m e) (x : Int) (v : Value) (w : World) (hv : IntV w v x) (nx : ¬ BigI x) :
    Calls Tryz.prog 66 #[v, .float .f64 (wordF s m e)] w fun r w' => r = .returned (.tuple #[.int .i64 (cmpI (x * unit) (sv s m e)), .bool true]) ∧ Below w.heap.size w w' := by
  by_cases he : 0 ≤ e
  · have hm53 : (sg s m).natAbs < 9007199254740992 := by rw [sg_abs]; exact h.1
    have hF := fun W => floor_can (s := s) h W
    have hi := integral_up .down (s := s) h he
    rw [read_word h] at hi
    rw [hi] at hF
    have e1 := sv_up s m e he
    have hc := cmp_floor x (sg s m * ((2 ^ e.toNat : Nat) : Int)) unit (sv s m e) unit_pos (by omega) (by rw [Int.add_mul]; have := unit_pos; omega)
    rw [if_neg (fun h2 => by have := h2.2; omega)] at hc
    rw [hc]
    have hr := flocmp_raw x _ (wordF s m e) (wordF s m e) false v w hv nx (prod_not_big hm53 (k := e.toNat) (by have := h.2.2.1; omega)) (can_lt h) (can_nan h) (can_pinf h) (can_minf h) hF (fun W => floexact_up h he W) (by rw [lt_num h h]; exact decide_eq_false (by omega))
    rw [if_neg (fun h2 => by cases h2.2)] at hr
    exact hr
  · obtain ⟨d, hd⟩ : ∃ d, (-e).toNat = d := ⟨_, rfl⟩
    have hed : e = -(d : Int) := by omega
    have hd1 : 0 < d := by omega
    have hd2 : d ≤ 1074 := by have := h.2.1; omega
    obtain ⟨Q, hQ⟩ : ∃ Q, floorQ s m (2 ^ d) = Q := ⟨_, rfl⟩
    have hq1 := half_div m d h.1 hd1
    have hQl : Q < 9007199254740992 := by
      rw [← hQ]
      unfold floorQ
      have : (s && decide (m % 2 ^ d ≠ 0)).toNat ≤ 1 := Bool.toNat_le _
      omega
    have hF := fun W => floor_can (s := s) h W
    have hi := integral_down .down (s := s) h (by omega)
    rw [read_word h, hd] at hi
    have hmb : (moreB Ieee.Toward.down s (m / 2 ^ d) (m % 2 ^ d) (2 ^ d)) = (s && decide (m % 2 ^ d ≠ 0)) := by
      have hb1 : (m % 2 ^ d != 0) = decide (m % 2 ^ d ≠ 0) := by rw [Bool.eq_iff_iff, bne_iff_ne, decide_eq_true_iff]
      rw [← hb1]
      rfl
    rw [hmb, show m / 2 ^ d + (s && decide (m % 2 ^ d ≠ 0)).toNat = Q from hQ] at hi
    rw [hi] at hF
    have hV : 0 < 2 ^ (-(d : Int) + 1074).toNat := Nat.two_pow_pos _
    have hfl := floor_ineq s m (2 ^ d) (2 ^ (-(d : Int) + 1074).toNat) (Nat.two_pow_pos _) hV
    rw [hQ, ← unit_split d hd2] at hfl
    have hsv : sv s m e = sg s (m * 2 ^ (-(d : Int) + 1074).toNat) := by rw [sv_sg, hed]
    rw [← hsv] at hfl
    have hc := cmp_floor x (sg s Q) unit (sv s m e) unit_pos hfl.1 hfl.2
    rw [hc]
    have hone : ((2 ^ 0 : Nat) : Int) = 1 := rfl
    have fin : ∀ F, (∀ W, Calls Tryz.prog 120 #[.float .f64 (wordF s m e)] W fun r w' => r = .returned (.float .f64 F) ∧ W = w') → (∀ W, Calls Tryz.prog 43 #[.float .f64 F] W (RetE W (sg s Q))) →
        (FloatKind.f64.format.order F (wordF s m e) == some .lt) = decide (sg s Q * unit < sv s m e) → Calls Tryz.prog 66 #[v, .float .f64 (wordF s m e)] w fun r w' => r = .returned (.tuple #[.int .i64 (if x = sg s Q ∧ sg s Q * unit < sv s m e then -1 else cmpI x (sg s Q)), .bool true]) ∧ Below w.heap.size w w' := by
      intro F f1 f2 f3
      have hnb : ¬ BigI (sg s Q) := small_not_big (by rw [sg_abs]; omega)
      have hr := flocmp_raw x _ (wordF s m e) F _ v w hv nx hnb (can_lt h) (can_nan h) (can_pinf h) (can_minf h) f1 f2 f3
      simp only [decide_eq_true_eq] at hr
      exact hr
    rcases Nat.eq_zero_or_pos Q with hq0 | hq0
    · subst hq0
      rw [nearest_zero] at hF
      have hc0 : CanF 0 (-1074) := by unfold CanF; decide
      have hz0 : sg s 0 = 0 := sg_zero s
      refine fin _ hF (fun W => ?_) ?_
      · have hx := floexact_zero s W
        rw [hone, Int.mul_one] at hx
        rw [hz0]
        exact hx
      · rw [lt_num hc0 h, hz0, Int.zero_mul, (sv_zero s 0 (-1074)).2 rfl]
    · obtain ⟨k, hk, hck, hnk, hek⟩ := whole_norm s Q hq0 hQl
      rw [hek] at hF
      refine fin _ hF (fun W => ?_) ?_
      · have hx := floexact_down s Q k hk hQl hck hnk hek W
        rw [hone, Int.mul_one] at hx
        exact hx
      · rw [lt_num hck h, sv_whole s Q k (by omega)]

end LM
end Go.Proofs.YtcfhiihhfcnfbaaGreatDoor

namespace Go.Proofs.YtcfhiihhfcnfbaaGreatDoor
open Go Go.RowKit
namespace LM
set_option linter.unusedVariables false

/-- where the doubling stands -/
def DbRel (w wr : World) (V n : Nat) (l kk : Value) : Prop := ∃ k A c r, k ≤ n ∧ kk = .int .i64 (k : Int) ∧ l = .slice A (List.length r) c ∧ Rd wr A r ∧ Can r ∧ val r = V * 2 ^ k ∧ Below w.heap.size w wr
theorem fitN_len {r : List Nat} (hc : Can r) (h : val r < 4294967296 ^ 130) : r.length ≤ 130 := by
  rcases Nat.lt_or_ge 130 r.length with h1 | h1
  · have := (can_len hc 130).1 h1
    omega
  · exact h1

end LM
end Go.Proofs.YtcfhiihhfcnfbaaGreatDoor

namespace Go.Proofs.YtcfhiihhfcnfbaaGreatDoor
open Go Go.RowKit
namespace LM
set_option linter.unusedVariables false

theorem word_parts0 {s : Bool} {m : Nat} {e : Int} (h : CanF m e) (hn : m < 4503599627370496) :
    wordF s m e < 18446744073709551616 ∧ wordF s m e / 4503599627370496 % 2048 = 0 ∧ wordF s m e % 4503599627370496 = m ∧ wordF s m e / 9223372036854775808 = (if s then 1 else 0) ∧ e = -1074 := by
  obtain ⟨h1, h2, h3, h4⟩ := h
  obtain rfl : e = -1074 := h4.resolve_left (by omega)
  unfold wordF
  cases s <;> simp <;> omega
theorem fit_shift {m k : Nat} (hm : m < 9007199254740992) (hk : k ≤ 971) : m * 2 ^ k < 4294967296 ^ 130 := by
  have h1 : m * 2 ^ k < 2 ^ 53 * 2 ^ k := Nat.mul_lt_mul_of_pos_right (by omega) (Nat.two_pow_pos _)
  obtain ⟨b, hb⟩ : ∃ b, 32 * 130 = b := ⟨_, rfl⟩
  rw [show 4294967296 = 2 ^ 32 from by decide, ← Nat.pow_mul, hb]
  rw [← Nat.pow_add] at h1
  exact Nat.lt_of_lt_of_le h1 (Nat.pow_le_pow_right (by decide) (by omega))
theorem intR_mk {w : World} {s : Bool} {A : Option Addr} {c : Nat} {r : List Nat} {V : Nat} (hV : 0 < V) (h1 : Rd w A r) (h2 : Can r) (h3 : val r = V) : IntR w (.agg #[.bool s, .slice A r.length c]) (sg s V) := by
  refine ⟨A, c, r, ?_, h1, h2, by rw [sg_abs]; exact h3⟩
  have : decide (sg s V < 0) = s := by
    cases s
    · exact decide_eq_false (show ¬ (V : Int) < 0 from by omega)
    · exact decide_eq_true (show -(V : Int) < 0 from by omega)
  rw [this]

end LM
end Go.Proofs.YtcfhiihhfcnfbaaGreatDoor

namespace Go.Proofs.YtcfhiihhfcnfbaaGreatDoor
open Go Go.RowKit
namespace LM
set_option linter.unusedVariables false

theorem cmpI_scale (a b V : Int) (hV : 0 < V) : cmpI (a * V) (b * V) = cmpI a b := by
  unfold cmpI
  have h1 : (a * V < b * V) ↔ a < b := Int.mul_lt_mul_right hV
  have h2 : (b * V < a * V) ↔ b < a := Int.mul_lt_mul_right hV
  simp only [h1, h2]
theorem cmp_parts (x : Int) (s : Bool) (m : Nat) (e : Int) (h0 : -1074 ≤ e) : cmpI (x * ((2 ^ (-e).toNat : Nat) : Int)) (sg s (m * 2 ^ e.toNat)) = cmpI (x * unit) (sv s m e) := by
  by_cases he : 0 ≤ e
  · rw [show (-e).toNat = 0 from by omega, Nat.pow_zero, show ((1 : Nat) : Int) = 1 from rfl, Int.mul_one, ← sv_up s m e he, ← sg_mul_nat, cmpI_scale _ _ _ unit_pos]
  · obtain ⟨d, hd⟩ : ∃ d, (-e).toNat = d := ⟨_, rfl⟩
    have hed : e = -(d : Int) := by omega
    have hV : 0 < 2 ^ (-(d : Int) + 1074).toNat := Nat.two_pow_pos _
    rw [hd, show e.toNat = 0 from by omega, Nat.pow_zero, Nat.mul_one, sv_sg, hed, sg_mul_nat, unit_split d (by omega), Int.natCast_mul, ← Int.mul_assoc, cmpI_scale _ _ _ (by omega)]

theorem fit_small {n k : Nat} (hn : n < 2 ^ k) (hk : k ≤ 4160) : n < 4294967296 ^ 130 := by
  obtain ⟨b, hb⟩ : ∃ b, 32 * 130 = b := ⟨_, rfl⟩
  rw [show 4294967296 = 2 ^ 32 from by decide, ← Nat.pow_mul, hb]
  exact Nat.lt_of_lt_of_le hn (Nat.pow_le_pow_right (by decide) (by omega))
theorem big_pow {x : Int} (nx : ¬ BigI x) : ∃ k, k = 2048 ∧ x.natAbs < 2 ^ k := by
  obtain ⟨b, hb⟩ : ∃ b, 32 * 64 = b := ⟨_, rfl⟩
  refine ⟨b, hb.symm, ?_⟩
  have h : x.natAbs < 4294967296 ^ 64 := Nat.lt_of_not_le nx
  rw [show 4294967296 = 2 ^ 32 from by decide, ← Nat.pow_mul, hb] at h
  exact h
theorem dbl_pow {x : Int} (nx : ¬ BigI x) {d : Nat} (hd : d ≤ 1074) : ∃ k, k ≤ 3122 ∧ x.natAbs * 2 ^ d < 2 ^ k := by
  obtain ⟨k, hk, hx⟩ := big_pow nx
  refine ⟨k + d, by omega, ?_⟩
  rw [Nat.pow_add]
  exact Nat.mul_lt_mul_of_pos_right hx (Nat.two_pow_pos _)
theorem num_pow {m k : Nat} (hm : m < 9007199254740992) (hk : k ≤ 971) : ∃ j, j ≤ 3122 ∧ m * 2 ^ k < 2 ^ j := by
  refine ⟨53 + k, by omega, ?_⟩
  rw [Nat.pow_add]
  exact Nat.mul_lt_mul_of_pos_right (by omega) (Nat.two_pow_pos _)

end LM
end Go.Proofs.YtcfhiihhfcnfbaaGreatDoor

namespace Go.Proofs.YtcfhiihhfcnfbaaGreatDoor
open Go Go.RowKit
namespace LM
set_option linter.unusedVariables false
attribute [local go_sem] run_store_flt

set_option maxRecDepth 100000 in
set_option maxHeartbeats 1000000 in
theorem ttext_f (f : Nat) (t : ByteArray) (s : Bool) (A : Option Addr) (n c : Nat) (w : World)
    (hT : ∀ W, Below w.heap.size w W → Calls Tryz.prog 15 #[.float .f64 f] W fun e w' => e = .returned (.string t) ∧ Below W.heap.size W w') :
    Calls Tryz.prog 62 #[numA true f s A n c] w fun e w' => e = .returned (.string t) ∧ Below w.heap.size w w' := by
  have Y0 := Nx.new w true f s A n c
  have hb0 : Below w.heap.size w (w.alloc (numO true f s A n c)) := (Below.refl _ w).alloc (Nat.le_refl _) _
  obtain ⟨y0, y1, y2, y3, -, -, -, -, yl⟩ := Y0.facts
  have HB0 := Lib.hid hb0
  have HT := Lib.hid (hT _ hb0)
  clear hb0 Y0 hT
  go_enter Tryz.func62, Tryz.ntmps62
  go_wp2_with (fail)
  refine HT.out.mono ?_
  rintro e w1 ⟨rfl, hb1⟩
  go_wp2_with (fail)
  go_ret
  exact ⟨rfl, bel_trans (B := w.heap.size) HB0.out hb1⟩

set_option maxRecDepth 100000 in
set_option maxHeartbeats 1000000 in
theorem ttext_i (f : Nat) (x : Int) (s : Bool) (A : Option Addr) (n c : Nat) (w : World) (hv : IntV w (.agg #[.bool s, .slice A n c]) x) (nx : ¬ BigI x) (htab : Lib.TabIs Tryz.prog w "internal/strconv.uint64pow10" .u64 Lib.pow10Tab) :
    Calls Tryz.prog 62 #[numA false f s A n c] w fun e w' => e = .returned (.string ⟨(decI x).toArray⟩) ∧ Below w.heap.size w w' := by
  have Y0 := Nx.new w false f s A n c
  have hb0 : Below w.heap.size w (w.alloc (numO false f s A n c)) := (Below.refl _ w).alloc (Nat.le_refl _) _
  obtain ⟨y0, y1, y2, y3, -, -, -, -, yl⟩ := Y0.facts
  have HB0 := Lib.hid hb0
  have HT := Lib.hid (etext_int (hv.alloc (numO false f s A n c)) nx (tab_below htab hb0))
  clear hb0 Y0 hv htab
  go_enter Tryz.func62, Tryz.ntmps62
  go_wp2_with (fail)
  refine HT.out.mono ?_
  rintro e w1 ⟨rfl, hb1⟩
  go_wp2_with (fail)
  go_ret
  exact ⟨rfl, bel_trans (B := w.heap.size) HB0.out hb1⟩

theorem two_num (w : World) (fl : Bool) (f : Nat) (s : Bool) (A : Option Addr) (n c : Nat) (fl' : Bool) (f' : Nat) (s' : Bool) (A' : Option Addr) (n' c' : Nat) :
    ∃ W, (w.alloc (numO fl f s A n c)).alloc (numO fl' f' s' A' n' c') = W ∧ Below w.heap.size w W ∧ Obs W [(w.heap.size + 1, numO fl' f' s' A' n' c'), (w.heap.size, numO fl f s A n c)] := by
  refine ⟨_, rfl, ((Below.refl _ w).alloc (Nat.le_refl _) _).alloc (by simp) _, ?_⟩
  have h := (Obs.nil.new (w := w) (numO fl f s A n c)).new (numO fl' f' s' A' n' c')
  simp only [World.size_alloc] at h
  exact h

set_option maxRecDepth 100000 in
set_option maxHeartbeats 1000000 in
/-- an exact one and a floating one -/
theorem tcmp_if (f fb : Nat) (k : Int) (ok : Bool) (s : Bool) (A : Option Addr) (n c : Nat) (s' : Bool) (A' : Option Addr) (n' c' : Nat) (w : World)
    (hC : ∀ W, Below w.heap.size w W → Calls Tryz.prog 66 #[.agg #[.bool s, .slice A n c], .float .f64 fb] W fun e w' => e = .returned (.tuple #[.int .i64 k, .bool ok]) ∧ Below W.heap.size W w') :
    Calls Tryz.prog 21 #[numA false f s A n c, numA true fb s' A' n' c'] w fun e w' => e = .returned (.tuple #[.int .i64 k, .bool ok]) ∧ Below w.heap.size w w' := by
  obtain ⟨W0, hW0, hb0, hO⟩ := two_num w false f s A n c true fb s' A' n' c'
  obtain ⟨p0, p1, p2, p3, -, -, -, -, pl⟩ := hO.nx0.facts
  obtain ⟨q0, q1, q2, q3, -, -, -, -, ql⟩ := hO.tl.nx0.facts
  have HB0 := Lib.hid hb0
  have C1 := Lib.hid (hC W0 hb0)
  have HW0 := Lib.hid hW0
  subst hW0
  clear hb0 hO hC
  go_enter Tryz.func21, Tryz.ntmps21
  go_wp2_with (fail)
  refine C1.out.mono ?_
  rintro e w1 ⟨rfl, hb1⟩
  go_wp2_with (fail)
  go_ret2
  exact ⟨rfl, bel_trans (B := w.heap.size) HB0.out hb1⟩

end LM
end Go.Proofs.YtcfhiihhfcnfbaaGreatDoor

namespace Go.Proofs.YtcfhiihhfcnfbaaGreatDoor
open Go Go.RowKit
namespace LM
set_option linter.unusedVariables false
attribute [local go_sem] run_store_flt

theorem cmpI_bd (x y : Int) : -1 ≤ cmpI x y ∧ cmpI x y ≤ 1 := by
  unfold cmpI
  split
  · omega
  · split <;> omega

set_option maxRecDepth 100000 in
set_option maxHeartbeats 1000000 in
theorem flocmp_nan (b : Nat) (hb : b < 18446744073709551616) (hn : nanW b) (s : Bool) (A : Option Addr) (n c : Nat) (w : World) :
    Calls Tryz.prog 66 #[.agg #[.bool s, .slice A n c], .float .f64 b] w fun e w' => e = .returned (.tuple #[.int .i64 0, .bool false]) ∧ Below w.heap.size w w' := by
  have N1 := Lib.hid fun W => isNaN_any b W hb
  rw [show decide (nanW b) = true from decide_eq_true hn] at N1
  have HB0 : Hid (Below w.heap.size w (w.alloc (.cells #[.bool s, .slice A n c] 36))) := Lib.hid ((Below.refl _ w).alloc (Nat.le_refl _) _)
  clear hn
  go_enter Tryz.func66, Tryz.ntmps66
  go_wp2_with (fail)
  refine (N1.out _).mono ?_
  rintro e w' ⟨rfl, rfl⟩
  go_wp2_with (fail)
  go_ret2
  exact ⟨rfl, HB0.out⟩
set_option maxRecDepth 100000 in
set_option maxHeartbeats 1000000 in
theorem flocmp_pinf (s : Bool) (A : Option Addr) (n c : Nat) (w : World) :
    Calls Tryz.prog 66 #[.agg #[.bool s, .slice A n c], .float .f64 9218868437227405312] w fun e w' => e = .returned (.tuple #[.int .i64 (-1), .bool true]) ∧ Below w.heap.size w w' := by
  have h1 := fun W => isNaN_any 9218868437227405312 W (by decide)
  rw [show decide (nanW 9218868437227405312) = false from decide_eq_false (by unfold nanW; decide)] at h1
  have N1 := Lib.hid h1
  have P1 := Lib.hid fun W => isInf_pos 9218868437227405312 W true (by decide +kernel)
  have P2 := Lib.hid fun W => isInf_neg 9218868437227405312 W false (by decide +kernel)
  have HB0 : Hid (Below w.heap.size w (w.alloc (.cells #[.bool s, .slice A n c] 36))) := Lib.hid ((Below.refl _ w).alloc (Nat.le_refl _) _)
  clear h1
  go_enter Tryz.func66, Tryz.ntmps66
  go_wp2_with (fail)
  refine (N1.out _).mono ?_
  rintro e w' ⟨rfl, rfl⟩
  go_wp2_with (fail)
  refine (P1.out _).mono ?_
  rintro e w' ⟨rfl, rfl⟩
  go_wp2_with (fail)
  go_ret2
  exact ⟨rfl, HB0.out⟩
set_option maxRecDepth 100000 in
set_option maxHeartbeats 1000000 in
theorem flocmp_minf (s : Bool) (A : Option Addr) (n c : Nat) (w : World) :
    Calls Tryz.prog 66 #[.agg #[.bool s, .slice A n c], .float .f64 18442240474082181120] w fun e w' => e = .returned (.tuple #[.int .i64 1, .bool true]) ∧ Below w.heap.size w w' := by
  have h1 := fun W => isNaN_any 18442240474082181120 W (by decide)
  rw [show decide (nanW 18442240474082181120) = false from decide_eq_false (by unfold nanW; decide)] at h1
  have N1 := Lib.hid h1
  have P1 := Lib.hid fun W => isInf_pos 18442240474082181120 W false (by decide +kernel)
  have P2 := Lib.hid fun W => isInf_neg 18442240474082181120 W true (by decide +kernel)
  have HB0 : Hid (Below w.heap.size w (w.alloc (.cells #[.bool s, .slice A n c] 36))) := Lib.hid ((Below.refl _ w).alloc (Nat.le_refl _) _)
  clear h1
  go_enter Tryz.func66, Tryz.ntmps66
  go_wp2_with (fail)
  refine (N1.out _).mono ?_
  rintro e w' ⟨rfl, rfl⟩
  go_wp2_with (fail)
  refine (P1.out _).mono ?_
  rintro e w' ⟨rfl, rfl⟩
  go_wp2_with (fail)
  refine (P2.out _).mono ?_
  rintro e w' ⟨rfl, rfl⟩
  go_wp2_with (fail)
  go_ret2
  exact ⟨rfl, HB0.out⟩
set_option maxRecDepth 100000 in
set_option maxHeartbeats 1000000 in
theorem tcmp_ii (f fb : Nat) (k : Int) (hk : -1 ≤ k ∧ k ≤ 1) (s : Bool) (A : Option Addr) (n c : Nat) (s' : Bool) (A' : Option Addr) (n' c' : Nat) (w : World)
    (hC : ∀ W, Below w.heap.size w W → Calls Tryz.prog 65 #[.agg #[.bool s, .slice A n c], .agg #[.bool s', .slice A' n' c']] W fun e w' => e = .returned (.int .i64 k) ∧ Below W.heap.size W w') :
    Calls Tryz.prog 21 #[numA false f s A n c, numA false fb s' A' n' c'] w fun e w' => e = .returned (.tuple #[.int .i64 k, .bool true]) ∧ Below w.heap.size w w' := by
  obtain ⟨W0, hW0, hb0, hO⟩ := two_num w false f s A n c false fb s' A' n' c'
  have HB0 := Lib.hid hb0
  have HW0 := Lib.hid hW0
  have O0 := Lib.hid hO
  have C1 := Lib.hid (hC W0 hb0)
  clear hb0 hO hC hW0
  go_enter Tryz.func21, Tryz.ntmps21
  go_wp2_with (fail)
  rw [HW0.out]
  refine C1.out.mono ?_
  rintro e w1 ⟨rfl, hb1⟩
  go_wp2_with (fail)
  go_ret2
  exact ⟨rfl, bel_trans (B := w.heap.size) HB0.out hb1⟩
set_option maxRecDepth 100000 in
set_option maxHeartbeats 1000000 in
theorem tcmp_fi (f fb : Nat) (k : Int) (ok : Bool) (hk : -1 ≤ k ∧ k ≤ 1) (s : Bool) (A : Option Addr) (n c : Nat) (s' : Bool) (A' : Option Addr) (n' c' : Nat) (w : World)
    (hC : ∀ W, Below w.heap.size w W → Calls Tryz.prog 66 #[.agg #[.bool s', .slice A' n' c'], .float .f64 f] W fun e w' => e = .returned (.tuple #[.int .i64 k, .bool ok]) ∧ Below W.heap.size W w') :
    Calls Tryz.prog 21 #[numA true f s A n c, numA false fb s' A' n' c'] w fun e w' => e = .returned (.tuple #[.int .i64 (-k), .bool ok]) ∧ Below w.heap.size w w' := by
  obtain ⟨W0, hW0, hb0, hO⟩ := two_num w true f s A n c false fb s' A' n' c'
  have HB0 := Lib.hid hb0
  have HW0 := Lib.hid hW0
  have O0 := Lib.hid hO
  have C1 := Lib.hid (hC W0 hb0)
  clear hb0 hO hC hW0
  go_enter Tryz.func21, Tryz.ntmps21
  go_wp2_with (fail)
  rw [HW0.out]
  refine C1.out.mono ?_
  rintro e w1 ⟨rfl, hb1⟩
  go_wp2_with (fail)
  go_ret2
  exact ⟨rfl, bel_trans (B := w.heap.size) HB0.out hb1⟩
end LM
end Go.Proofs.YtcfhiihhfcnfbaaGreatDoor

namespace Go.Proofs.YtcfhiihhfcnfbaaGreatDoor
open Go Go.RowKit
namespace LM
set_option linter.unusedVariables false
attribute [local go_sem] run_store_flt

theorem cmp_2p53 : cmpI (9007199254740993 * unit) (sv false 4503599627370496 1) = 1 := by
  have h := sv_up false 4503599627370496 1 (by decide)
  rw [← h, show sg false 4503599627370496 * ((2 ^ (1 : Int).toNat : Nat) : Int) = 9007199254740992 from by decide]
  have hp := unit_pos
  exact cmpI_gt (by omega)

set_option maxRecDepth 100000 in
set_option maxHeartbeats 8000000 in
theorem talive_any (w : World) (hv : TV w) :
    Calls Tryz.prog 18 #[] w fun e w' => e = .returned (.bool true) ∧ Below w.heap.size w w' := by
  have HV := Lib.hid hv
  have I1 := Lib.hid fun z W (h1 : -9223372036854775808 ≤ z) (h2 : z ≤ 9223372036854775807) => tint_any z h1 h2 W
  have F1 := Lib.hid tflo_any
  have o1 : floatOfInt .f64 ((1 : Nat) : Int) = 4607182418800017408 := by decide
  have o2 : floatOfInt .f64 ((2 : Nat) : Int) = 4611686018427387904 := by decide
  have a1 : floatBits .add .f64 4607182418800017408 4602678819172646912 = some 4609434218613702656 := by decide
  have a2 : floatBits .quo .f64 4607182418800017408 4611686018427387904 = some 4602678819172646912 := by decide
  have OF1 : Hid (∀ v W, IntV W v 1 → Calls Tryz.prog 45 #[v] W fun e w' => e = .returned (.float .f64 4607182418800017408) ∧ Below W.heap.size W w') := Lib.hid fun v W h => by
    have h2 := floof_small 1 (by decide) v W h
    rw [o1] at h2
    exact h2
  have OF2 : Hid (∀ v W, IntV W v 2 → Calls Tryz.prog 45 #[v] W fun e w' => e = .returned (.float .f64 4611686018427387904) ∧ Below W.heap.size W w') := Lib.hid fun v W h => by
    have h2 := floof_small 2 (by decide) v W h
    rw [o2] at h2
    exact h2
  have NB : ∀ z : Int, z.natAbs < 18446744073709551616 * 4294967296 → ¬ BigI z := fun z h => small_not_big h
  have AD := Lib.hid fun s A n c W (h : IntV W (.agg #[.bool s, .slice A n c]) 1) => tadd_if 0 4607182418800017408 4602678819172646912 4609434218613702656 s A n c false none 0 0 W (fun W' hb => OF1.out _ W' (h.keep hb)) a1
  have D1 := Lib.hid fun s A n c s' A' n' c' W (h : IntV W (.agg #[.bool s, .slice A n c]) 6) (h' : IntV W (.agg #[.bool s', .slice A' n' c']) 3) => tdiv_whole 0 0 s A n c s' A' n' c' 6 3 W h h' (NB _ (by decide)) (NB _ (by decide)) (by decide) (by decide)
  have D2 := Lib.hid fun s A n c s' A' n' c' W (h : IntV W (.agg #[.bool s, .slice A n c]) 1) (h' : IntV W (.agg #[.bool s', .slice A' n' c']) 2) => tdiv_flo 0 0 4607182418800017408 4611686018427387904 4602678819172646912 s A n c s' A' n' c' 1 2 W h h' (NB _ (by decide)) (NB _ (by decide)) (by decide) (by decide)
    (fun W' hb => OF1.out _ W' (h.keep hb)) (fun W' hb => OF2.out _ W' (h'.keep hb)) a2
  have C1 := Lib.hid fun s A n c W (h : IntV W (.agg #[.bool s, .slice A n c]) 9007199254740993) => tcmp_if 0 4845873199050653696 1 true s A n c false none 0 0 W fun W' hb => by
    have h2 := flocmp_can (s := false) (m := 4503599627370496) (e := 1) (by unfold CanF; decide) 9007199254740993 _ W' (h.keep hb) (NB _ (by decide))
    rw [cmp_2p53, show wordF false 4503599627370496 1 = 4845873199050653696 from by decide] at h2
    exact h2
  have T1 := Lib.hid fun s A n c W (h : TV W) => ttext_f 4609434218613702656 ⟨#[49, 46, 53]⟩ s A n c W fun W' hb => text_1h W' (h.below hb)
  have T2 := Lib.hid fun s A n c W (h : TV W) (hx : IntV W (.agg #[.bool s, .slice A n c]) (quoI 6 3)) => ttext_i 0 (quoI 6 3) s A n c W hx (NB _ (by decide)) h.tab
  have T3 := Lib.hid fun s A n c W (h : TV W) => ttext_f 4602678819172646912 ⟨#[48, 46, 53]⟩ s A n c W fun W' hb => text_h W' (h.below hb)
  rw [show decI (quoI 6 3) = [50] from by rw [show quoI 6 3 = 2 from by decide]; unfold decI; rw [if_neg (by decide), show (2 : Int).natAbs = 2 from rfl, dec_small (by decide)]; rfl] at T2
  have c1 : ((⟨#[49, 46, 53]⟩ : ByteArray).toList == [49, 46, 53]) = true := by rw [Go.ByteArray.toList_eq]; rfl
  have c2 : ((⟨#[50]⟩ : ByteArray).toList == [50]) = true := by rw [Go.ByteArray.toList_eq]; rfl
  have c3 : ((⟨#[48, 46, 53]⟩ : ByteArray).toList == [48, 46, 53]) = true := by rw [Go.ByteArray.toList_eq]; rfl
  clear hv o1 o2 a1 a2 NB
  go_enter Tryz.func18, Tryz.ntmps18
  go_wp2_with (fail)
  refine (I1.out 1 _ (by decide) (by decide)).mono ?_
  rintro e w1 ⟨s1, A1, n1, k1, rfl, hv1, hb1⟩
  have V1 := Lib.hid hv1
  have HB1 := Lib.hid hb1
  clear hv1 hb1
  go_wp2_with (fail)
  refine (F1.out _ _).mono ?_
  rintro e w2 ⟨rfl, hb2⟩
  have V2 := Lib.hid (V1.out.keep hb2)
  have HB2 := Lib.hid (bel_trans (B := w.heap.size) HB1.out hb2)
  clear hb2
  go_wp2_with (fail)
  refine (AD.out _ _ _ _ _ V2.out).mono ?_
  rintro e w3 ⟨rfl, hb3⟩
  have hbk := bel_trans (B := w.heap.size) HB2.out hb3
  have HB3 := Lib.hid (hbk.alloc hbk.size (numO true 4609434218613702656 false none 0 0))
  have O3 := Lib.hid (Obs.nil.new (w := w3) (numO true 4609434218613702656 false none 0 0))
  clear hb3 hbk
  go_wp2_with (fail)
  refine (I1.out 6 _ (by decide) (by decide)).mono ?_
  rintro e w4 ⟨s4, A4, n4, k4, rfl, hv4, hb4⟩
  have V4 := Lib.hid hv4
  have HB4 := Lib.hid (bel_trans (B := w.heap.size) HB3.out hb4)
  have O4 := Lib.hid (O3.out.below hb4)
  clear hv4 hb4
  go_wp2_with (fail)
  refine (I1.out 3 _ (by decide) (by decide)).mono ?_
  rintro e w5 ⟨s5, A5, n5, k5, rfl, hv5, hb5⟩
  have V5 := Lib.hid hv5
  have V45 := Lib.hid (V4.out.keep hb5)
  have HB5 := Lib.hid (bel_trans (B := w.heap.size) HB4.out hb5)
  have O5 := Lib.hid (O4.out.below hb5)
  clear hv5 hb5
  go_wp2_with (fail)
  refine (D1.out _ _ _ _ _ _ _ _ _ V45.out V5.out).mono ?_
  rintro e w6 ⟨s6, A6, n6, k6, rfl, hv6, hb6⟩
  have hbk := bel_trans (B := w.heap.size) HB5.out hb6
  have HB6 := Lib.hid (hbk.alloc hbk.size (numO false 0 s6 A6 n6 k6))
  have O6 := Lib.hid ((O5.out.below hb6).new (numO false 0 s6 A6 n6 k6))
  have V6 := Lib.hid (hv6.alloc (numO false 0 s6 A6 n6 k6))
  clear hv6 hb6 hbk
  go_wp2_with (fail)
  refine (I1.out 1 _ (by decide) (by decide)).mono ?_
  rintro e w7 ⟨s7, A7, n7, k7, rfl, hv7, hb7⟩
  have V7 := Lib.hid hv7
  have V67 := Lib.hid (V6.out.keep hb7)
  have HB7 := Lib.hid (bel_trans (B := w.heap.size) HB6.out hb7)
  have O7 := Lib.hid (O6.out.below hb7)
  clear hv7 hb7
  go_wp2_with (fail)
  refine (I1.out 2 _ (by decide) (by decide)).mono ?_
  rintro e w8 ⟨s8, A8, n8, k8, rfl, hv8, hb8⟩
  have V8 := Lib.hid hv8
  have V78 := Lib.hid (V7.out.keep hb8)
  have V68 := Lib.hid (V67.out.keep hb8)
  have HB8 := Lib.hid (bel_trans (B := w.heap.size) HB7.out hb8)
  have O8 := Lib.hid (O7.out.below hb8)
  clear hv8 hb8
  go_wp2_with (fail)
  refine (D2.out _ _ _ _ _ _ _ _ _ V78.out V8.out).mono ?_
  rintro e w9 ⟨rfl, hb9⟩
  have hbk := bel_trans (B := w.heap.size) HB8.out hb9
  have HB9 := Lib.hid (hbk.alloc hbk.size (numO true 4602678819172646912 false none 0 0))
  have O9 := Lib.hid ((O8.out.below hb9).new (numO true 4602678819172646912 false none 0 0))
  have V69 := Lib.hid ((V68.out.keep hb9).alloc (numO true 4602678819172646912 false none 0 0))
  clear hb9 hbk
  go_wp2_with (fail)
  refine (I1.out 9007199254740993 _ (by decide) (by decide)).mono ?_
  rintro e w10 ⟨s10, A10, n10, k10, rfl, hv10, hb10⟩
  have V10 := Lib.hid hv10
  have V610 := Lib.hid (V69.out.keep hb10)
  have HB10 := Lib.hid (bel_trans (B := w.heap.size) HB9.out hb10)
  have O10 := Lib.hid (O9.out.below hb10)
  clear hv10 hb10
  go_wp2_with (fail)
  refine (F1.out _ _).mono ?_
  rintro e w11 ⟨rfl, hb11⟩
  have V11 := Lib.hid (V10.out.keep hb11)
  have V611 := Lib.hid (V610.out.keep hb11)
  have HB11 := Lib.hid (bel_trans (B := w.heap.size) HB10.out hb11)
  have O11 := Lib.hid (O10.out.below hb11)
  clear hb11
  go_wp2_with (fail)
  refine (C1.out _ _ _ _ _ V11.out).mono ?_
  rintro e w12 ⟨rfl, hb12⟩
  have V612 := Lib.hid (V611.out.keep hb12)
  have HB12 := Lib.hid (bel_trans (B := w.heap.size) HB11.out hb12)
  have O12 := Lib.hid (O11.out.below hb12)
  clear hb12
  obtain ⟨p0, p1, p2, p3, -, -, -, -, pl⟩ := O12.out.tl.tl.nx0.facts
  go_wp2_with (fail)
  refine (T1.out _ _ _ _ _ (HV.out.below HB12.out)).mono ?_
  rintro e w13 ⟨rfl, hb13⟩
  have V613 := Lib.hid (V612.out.keep hb13)
  have HB13 := Lib.hid (bel_trans (B := w.heap.size) HB12.out hb13)
  have O13 := Lib.hid (O12.out.below hb13)
  clear hb13 p0 p1 p2 p3 pl
  obtain ⟨p0, p1, p2, p3, -, -, -, -, pl⟩ := O13.out.tl.nx0.facts
  go_wp2_with (fail)
  refine (T2.out _ _ _ _ _ (HV.out.below HB13.out) V613.out).mono ?_
  rintro e w14 ⟨rfl, hb14⟩
  have HB14 := Lib.hid (bel_trans (B := w.heap.size) HB13.out hb14)
  have O14 := Lib.hid (O13.out.below hb14)
  clear hb14 p0 p1 p2 p3 pl
  obtain ⟨p0, p1, p2, p3, -, -, -, -, pl⟩ := O14.out.nx0.facts
  go_wp2_with (fail)
  refine (T3.out _ _ _ _ _ (HV.out.below HB14.out)).mono ?_
  rintro e w15 ⟨rfl, hb15⟩
  have HB15 := Lib.hid (bel_trans (B := w.heap.size) HB14.out hb15)
  clear hb15 p0 p1 p2 p3 pl
  go_wp2
  go_ret
  exact ⟨rfl, HB15.out⟩

end LM
end Go.Proofs.YtcfhiihhfcnfbaaGreatDoor

namespace Go.Proofs.YtcfhiihhfcnfbaaGreatDoor
open Go Go.RowKit
namespace LM
set_option linter.unusedVariables false
attribute [local go_sem] run_store_flt

set_option maxRecDepth 100000 in
set_option maxHeartbeats 4000000 in
/-- an exact one with a floating number beside it can't be -/
theorem tright_bad (w : World) :
    Calls Tryz.prog 128 #[numA false 4607182418800017408 false none 0 0] w fun e w' => e = .returned (.bool false) ∧ Below w.heap.size w w' := by
  have Y0 := Nx.new w false 4607182418800017408 false none 0 0
  have hb0 : Below w.heap.size w (w.alloc (numO false 4607182418800017408 false none 0 0)) := (Below.refl _ w).alloc (Nat.le_refl _) _
  obtain ⟨y0, y1, y2, y3, -, -, -, -, yl⟩ := Y0.facts
  have HB0 := Lib.hid hb0
  have hB := fun W => bits_any 4607182418800017408 W (by decide)
  rw [show canW 4607182418800017408 = 4607182418800017408 from by decide] at hB
  have B1 := Lib.hid hB
  clear hb0 Y0 hB
  go_enter Tryz.func128, Tryz.ntmps128
  go_wp2_with (fail)
  refine (B1.out _).mono ?_
  rintro e w' ⟨rfl, rfl⟩
  go_wp2_with (fail)
  go_ret
  exact ⟨rfl, HB0.out⟩

end LM
end Go.Proofs.YtcfhiihhfcnfbaaGreatDoor

namespace Go.Proofs.YtcfhiihhfcnfbaaGreatDoor
open Go Go.RowKit
namespace LM
set_option linter.unusedVariables false
attribute [local go_sem] run_store_flt

theorem Nx.setI {w : World} {g k : Nat} {fl : Bool} {f : Nat} {s : Bool} {A : Option Addr} {n c : Nat} (h : Nx w k fl f s A n c) (hk : k ≠ g) (u v : Value) : Nx ((w.setCell ⟨g, 0, none⟩ u).setCell ⟨g, 1, none⟩ v) k fl f s A n c :=
  (h.set (p := ⟨g, 0, none⟩) u hk).set (p := ⟨g, 1, none⟩) v hk
/-- the world behind a store into a whole number's variable, under a name of its own; numbers' blocks stay -/
theorem stored_intN {w w2 : World} {g B : Nat} {b : Bool} {A : Option Addr} {n c : Nat} (Y : Bx w2 g b A n c) (hb : Below B w w2) (hg : B ≤ g) (s : Bool) (A' : Option Addr) (n' c' : Nat) :
    ∃ W, (w2.setCell ⟨g, 0, none⟩ (.bool s)).setCell ⟨g, 1, none⟩ (.slice A' n' c') = W ∧ Bx W g s A' n' c' ∧ Below B w W ∧ (∀ v z, IntV w2 v z → IntV W v z) ∧
      (∀ k fl f t A1 n1 c1, k ≠ g → Nx w2 k fl f t A1 n1 c1 → Nx W k fl f t A1 n1 c1) :=
  ⟨_, rfl, Y.stored, below_stored hb hg _ _, fun _ _ h => h.stored Y _ _, fun _ _ _ _ _ _ _ hk h => h.setI hk _ _⟩
abbrev intO (s : Bool) (A : Option Addr) (n c : Nat) : Obj := .cells #[.bool s, .slice A n c] 36 (0, 0)
theorem four_blk (w : World) (f f0 : Nat) (s : Bool) (A : Option Addr) (n c : Nat) (s' : Bool) (A' : Option Addr) (n' c' : Nat) :
    ∃ W, ((((w.alloc (numO false f s A n c)).alloc (numO false f0 s' A' n' c')).alloc (numO false 0 false none 0 0)).alloc (intO false none 0 0)) = W ∧ Below w.heap.size w W ∧
      Obs W [(w.heap.size + 1 + 1 + 1, intO false none 0 0), (w.heap.size + 1 + 1, numO false 0 false none 0 0), (w.heap.size + 1, numO false f0 s' A' n' c'), (w.heap.size, numO false f s A n c)] := by
  refine ⟨_, rfl, ((((Below.refl _ w).alloc (Nat.le_refl _) _).alloc (by simp) _).alloc (by simp; omega) _).alloc (by simp; omega) _, ?_⟩
  have h := (((Obs.nil.new (w := w) (numO false f s A n c)).new (numO false f0 s' A' n' c')).new (numO false 0 false none 0 0)).new (intO false none 0 0)
  simp only [World.size_alloc] at h
  exact h

/-- what comes of two exact numbers, by what is done -/
def AnsW (op x y z e : Int) : Prop :=
  (op = 0 ∧ ∃ r, QOut x y z r e) ∨ (op = 1 ∧ ∃ q, QOut x y q z e) ∨ (op = 2 ∧ MOut x y z e) ∨ (op = 3 ∧ z = ((Nat.gcd x.natAbs y.natAbs : Nat) : Int) ∧ e = 0) ∨ (op = 4 ∧ z = (powR x y).1 ∧ e = (powR x y).2) ∨
    ((op ≠ 0 ∧ op ≠ 1 ∧ op ≠ 2 ∧ op ≠ 3 ∧ op ≠ 4) ∧ z = 0 ∧ e = 41)
theorem AnsW.same {op x y z e z' e' : Int} (h : AnsW op x y z e) (k : AnsW op x y z' e') : z = z' ∧ e = e' := by
  rcases h with ⟨h0, r, h⟩ | ⟨h0, q, h⟩ | ⟨h0, h⟩ | ⟨h0, h, h1⟩ | ⟨h0, h, h1⟩ | ⟨h0, h, h1⟩ <;> rcases k with ⟨k0, r', k⟩ | ⟨k0, q', k⟩ | ⟨k0, k⟩ | ⟨k0, k, k1⟩ | ⟨k0, k, k1⟩ | ⟨k0, k, k1⟩ <;> first | omega | skip
  · have := h.same k; exact ⟨this.1, this.2.2⟩
  · have := h.same k; exact ⟨this.2.1, this.2.2⟩
  · exact h.same k
def RetW (w : World) (op x y : Int) (e : Ending) (w' : World) : Prop := ∃ s1 A1 n1 c1 z er, e = .returned (.tuple #[numA false 0 s1 A1 n1 c1, .int .i64 er]) ∧ IntV w' (.agg #[.bool s1, .slice A1 n1 c1]) z ∧ AnsW op x y z er ∧ Below w.heap.size w w'

end LM
end Go.Proofs.YtcfhiihhfcnfbaaGreatDoor

namespace Go.Proofs.YtcfhiihhfcnfbaaGreatDoor
open Go Go.RowKit
namespace LM
set_option linter.unusedVariables false
attribute [local go_sem] run_store_flt

set_option maxRecDepth 100000 in
set_option maxHeartbeats 4000000 in
theorem rout_ok (s : Bool) (A : Option Addr) (n c : Nat) (w : World) :
    Calls Tryz.prog 139 #[.agg #[.bool s, .slice A n c], .int .i64 0] w fun e w' => e = .returned (.tuple #[numA false 0 s A n c, .int .i64 0]) ∧ Below w.heap.size w w' := by
  go_enter Tryz.func139, Tryz.ntmps139
  go_wp2_with (fail)
  refine bodyPost_ret (v := .tuple #[numA false 0 s A n c, .int .i64 0]) (by simp [results, Tryz.results139, go_sem]) rfl ?_
  exact ⟨rfl, ((Below.refl _ w).alloc (Nat.le_refl _) _).alloc (by simp) _⟩
set_option maxRecDepth 100000 in
set_option maxHeartbeats 4000000 in
theorem rout_bad (er : Int) (he : er ≠ 0) (s : Bool) (A : Option Addr) (n c : Nat) (w : World) :
    Calls Tryz.prog 139 #[.agg #[.bool s, .slice A n c], .int .i64 er] w fun e w' => e = .returned (.tuple #[numA false 0 false none 0 0, .int .i64 er]) ∧ Below w.heap.size w w' := by
  have e0 : (er != 0) = true := by rw [bne_iff_ne]; exact he
  clear he
  go_enter Tryz.func139, Tryz.ntmps139
  go_wp2_with (fail)
  refine bodyPost_ret (v := .tuple #[numA false 0 false none 0 0, .int .i64 er]) (by simp [results, Tryz.results139, go_sem]) rfl ?_
  exact ⟨rfl, ((Below.refl _ w).alloc (Nat.le_refl _) _).alloc (by simp) _⟩
theorem rout_any (er z : Int) (s : Bool) (A : Option Addr) (n c : Nat) (w : World) (hv : IntR w (.agg #[.bool s, .slice A n c]) z) (h : er = 0 ∨ (er ≠ 0 ∧ z = 0)) :
    Calls Tryz.prog 139 #[.agg #[.bool s, .slice A n c], .int .i64 er] w fun e w' => ∃ s1 A1 n1 c1, e = .returned (.tuple #[numA false 0 s1 A1 n1 c1, .int .i64 er]) ∧ IntR w' (.agg #[.bool s1, .slice A1 n1 c1]) z ∧ Below w.heap.size w w' := by
  rcases h with rfl | ⟨h1, rfl⟩
  · exact (rout_ok s A n c w).mono fun e w' ⟨h1, h2⟩ => ⟨_, _, _, _, h1, hv.keep h2, h2⟩
  · exact (rout_bad er h1 s A n c w).mono fun e w' ⟨h2, h3⟩ => ⟨_, _, _, _, h2, intR_nil _, h3⟩

def RetWR (w : World) (op x y : Int) (e : Ending) (w' : World) : Prop := ∃ s1 A1 n1 c1 z er, e = .returned (.tuple #[numA false 0 s1 A1 n1 c1, .int .i64 er]) ∧ IntR w' (.agg #[.bool s1, .slice A1 n1 c1]) z ∧ AnsW op x y z er ∧ Below w.heap.size w w'
theorem QOut.err {x y q r e : Int} (h : QOut x y q r e) : (e = 0 ∨ (e ≠ 0 ∧ q = 0)) ∧ (e = 0 ∨ (e ≠ 0 ∧ r = 0)) := by
  rcases h with ⟨_, h1, h2, h3⟩ | ⟨_, h1, _, _⟩
  · exact ⟨.inr ⟨by omega, h2⟩, .inr ⟨by omega, h3⟩⟩
  · exact ⟨.inl h1, .inl h1⟩
theorem MOut.err {x y m e : Int} (h : MOut x y m e) : e = 0 ∨ (e ≠ 0 ∧ m = 0) := by
  rcases h with ⟨_, h1, h2⟩ | ⟨_, h1, _⟩
  · exact .inr ⟨by omega, h2⟩
  · exact .inl h1
theorem powR_err (x y : Int) : (powR x y).2 = 0 ∨ ((powR x y).2 ≠ 0 ∧ (powR x y).1 = 0) := by
  unfold powR
  split
  · split
    · exact .inr ⟨by decide, rfl⟩
    · exact .inl rfl
  · exact .inr ⟨by decide, rfl⟩

end LM
end Go.Proofs.YtcfhiihhfcnfbaaGreatDoor

namespace Go.Proofs.YtcfhiihhfcnfbaaGreatDoor
open Go Go.RowKit
namespace LM
set_option linter.unusedVariables false
attribute [local go_sem] run_store_flt

theorem read_some (a : Nat) (ha : a < 18446744073709551616) (hn : ¬ nanW a) : (∃ s m e, Ieee.double.read a = .number s m e) ∨ (∃ s, Ieee.double.read a = .infinity s) := by
  by_cases h : a % 9223372036854775808 < 9218868437227405312
  · obtain ⟨s, m, e, hc, rfl⟩ := word_of a ha h
    exact .inl ⟨s, m, e, read_word hc⟩
  · unfold nanW at hn
    exact .inr ⟨_, read_inf a (by omega)⟩
theorem order_none (a b : Nat) (h : nanW a ∨ nanW b) : FloatKind.f64.format.order a b = none := by
  show Ieee.double.order a b = none
  unfold Ieee.Format.order
  rcases h with h | h
  · rw [read_nan a h]; rfl
  · rw [read_nan b h]
    cases Ieee.double.read a <;> rfl
theorem order_some (a b : Nat) (ha : a < 18446744073709551616) (hb : b < 18446744073709551616) (na : ¬ nanW a) (nb : ¬ nanW b) : ∃ o, FloatKind.f64.format.order a b = some o := by
  show ∃ o, Ieee.double.order a b = some o
  unfold Ieee.Format.order
  rcases read_some a ha na with ⟨s, m, e, h⟩ | ⟨s, h⟩ <;> rcases read_some b hb nb with ⟨t, n, j, k⟩ | ⟨t, k⟩ <;> rw [h, k] <;> exact ⟨_, rfl⟩

set_option maxHeartbeats 1000000 in
theorem cisnan_any (b : Nat) (w : World) (hb : b < 18446744073709551616) (hn : ¬ nanW b) :
    Calls Tryz.prog 121 #[.float .f64 b] w fun e w' => e = .returned (.bool false) ∧ w = w' := by
  have h1 : (FloatKind.f64.format.order b b != some .eq) = false := by
    have h := order_self b hb
    rw [if_neg hn] at h
    show (Ieee.double.order b b != some .eq) = false
    rw [h]; rfl
  clear hn
  go_enter Tryz.func121, Tryz.ntmps121
  go_wp2
  go_ret
  exact ⟨rfl, rfl⟩
set_option maxHeartbeats 1000000 in
theorem ccmp_lt (a b : Nat) (w : World) (ha : a < 18446744073709551616) (hb : b < 18446744073709551616) (na : ¬ nanW a) (nb : ¬ nanW b) (ho : FloatKind.f64.format.order a b = some .lt) :
    Calls Tryz.prog 67 #[.float .f64 a, .float .f64 b] w fun e w' => e = .returned (.int .i64 (-1)) ∧ w = w' := by
  have N1 := Lib.hid fun W => cisnan_any a W ha na
  have N2 := Lib.hid fun W => cisnan_any b W hb nb
  have l1 : (FloatKind.f64.format.order a b == some .lt) = true := by rw [ho]; rfl
  have l2 : (FloatKind.f64.format.order a b == some .gt) = false := by rw [ho]; rfl
  clear na nb ho
  go_enter Tryz.func67, Tryz.ntmps67
  go_wp2_with (fail)
  refine (N1.out _).mono ?_
  rintro e w' ⟨rfl, rfl⟩
  go_wp2_with (fail)
  refine (N2.out _).mono ?_
  rintro e w' ⟨rfl, rfl⟩
  go_wp2_with (fail)
  go_ret
  exact ⟨rfl, rfl⟩
set_option maxHeartbeats 1000000 in
theorem ccmp_gt (a b : Nat) (w : World) (ha : a < 18446744073709551616) (hb : b < 18446744073709551616) (na : ¬ nanW a) (nb : ¬ nanW b) (ho : FloatKind.f64.format.order a b = some .gt) :
    Calls Tryz.prog 67 #[.float .f64 a, .float .f64 b] w fun e w' => e = .returned (.int .i64 1) ∧ w = w' := by
  have N1 := Lib.hid fun W => cisnan_any a W ha na
  have N2 := Lib.hid fun W => cisnan_any b W hb nb
  have l1 : (FloatKind.f64.format.order a b == some .lt) = false := by rw [ho]; rfl
  have l2 : (FloatKind.f64.format.order a b == some .gt) = true := by rw [ho]; rfl
  clear na nb ho
  go_enter Tryz.func67, Tryz.ntmps67
  go_wp2_with (fail)
  refine (N1.out _).mono ?_
  rintro e w' ⟨rfl, rfl⟩
  go_wp2_with (fail)
  refine (N2.out _).mono ?_
  rintro e w' ⟨rfl, rfl⟩
  go_wp2_with (fail)
  go_ret
  exact ⟨rfl, rfl⟩
set_option maxHeartbeats 1000000 in
theorem ccmp_eq (a b : Nat) (w : World) (ha : a < 18446744073709551616) (hb : b < 18446744073709551616) (na : ¬ nanW a) (nb : ¬ nanW b) (ho : FloatKind.f64.format.order a b = some .eq) :
    Calls Tryz.prog 67 #[.float .f64 a, .float .f64 b] w fun e w' => e = .returned (.int .i64 0) ∧ w = w' := by
  have N1 := Lib.hid fun W => cisnan_any a W ha na
  have N2 := Lib.hid fun W => cisnan_any b W hb nb
  have l1 : (FloatKind.f64.format.order a b == some .lt) = false := by rw [ho]; rfl
  have l2 : (FloatKind.f64.format.order a b == some .gt) = false := by rw [ho]; rfl
  clear na nb ho
  go_enter Tryz.func67, Tryz.ntmps67
  go_wp2_with (fail)
  refine (N1.out _).mono ?_
  rintro e w' ⟨rfl, rfl⟩
  go_wp2_with (fail)
  refine (N2.out _).mono ?_
  rintro e w' ⟨rfl, rfl⟩
  go_wp2_with (fail)
  go_ret
  exact ⟨rfl, rfl⟩
set_option maxRecDepth 100000 in
set_option maxHeartbeats 1000000 in
theorem tcmp_ff (fa fb : Nat) (k : Int) (ha : fa < 18446744073709551616) (hb : fb < 18446744073709551616) (na : ¬ nanW fa) (nb : ¬ nanW fb) (s : Bool) (A : Option Addr) (n c : Nat) (s' : Bool) (A' : Option Addr) (n' c' : Nat) (w : World)
    (hC : ∀ W, Calls Tryz.prog 67 #[.float .f64 fa, .float .f64 fb] W fun e w' => e = .returned (.int .i64 k) ∧ W = w') :
    Calls Tryz.prog 21 #[numA true fa s A n c, numA true fb s' A' n' c'] w fun e w' => e = .returned (.tuple #[.int .i64 k, .bool true]) ∧ Below w.heap.size w w' := by
  obtain ⟨W0, hW0, hb0, hO⟩ := two_num w true fa s A n c true fb s' A' n' c'
  obtain ⟨p0, p1, p2, p3, -, -, -, -, pl⟩ := hO.nx0.facts
  obtain ⟨q0, q1, q2, q3, -, -, -, -, ql⟩ := hO.tl.nx0.facts
  have HB0 := Lib.hid hb0
  have HW0 := Lib.hid hW0
  have h1 := fun W => isNaN_any fa W ha
  have h2 := fun W => isNaN_any fb W hb
  rw [decide_eq_false na] at h1
  rw [decide_eq_false nb] at h2
  have N1 := Lib.hid h1
  have N2 := Lib.hid h2
  have C1 := Lib.hid hC
  clear hb0 hO hC hW0 h1 h2 na nb
  go_enter Tryz.func21, Tryz.ntmps21
  go_wp2_with (fail)
  rw [HW0.out]
  refine (N1.out _).mono ?_
  rintro e w' ⟨rfl, rfl⟩
  go_wp2_with (fail)
  refine (N2.out _).mono ?_
  rintro e w' ⟨rfl, rfl⟩
  go_wp2_with (fail)
  refine (C1.out _).mono ?_
  rintro e w' ⟨rfl, rfl⟩
  go_wp2_with (fail)
  go_ret2
  exact ⟨rfl, HB0.out⟩
set_option maxRecDepth 100000 in
set_option maxHeartbeats 1000000 in
theorem tcmp_nan (fa fb : Nat) (ha : fa < 18446744073709551616) (hb : fb < 18446744073709551616) (hn : nanW fa ∨ nanW fb) (s : Bool) (A : Option Addr) (n c : Nat) (s' : Bool) (A' : Option Addr) (n' c' : Nat) (w : World) :
    Calls Tryz.prog 21 #[numA true fa s A n c, numA true fb s' A' n' c'] w fun e w' => e = .returned (.tuple #[.int .i64 0, .bool false]) ∧ Below w.heap.size w w' := by
  obtain ⟨W0, hW0, hb0, hO⟩ := two_num w true fa s A n c true fb s' A' n' c'
  obtain ⟨p0, p1, p2, p3, -, -, -, -, pl⟩ := hO.nx0.facts
  obtain ⟨q0, q1, q2, q3, -, -, -, -, ql⟩ := hO.tl.nx0.facts
  have HB0 := Lib.hid hb0
  have HW0 := Lib.hid hW0
  have h1 := fun W => isNaN_any fa W ha
  have h2 := fun W => isNaN_any fb W hb
  by_cases na : nanW fa
  · rw [decide_eq_true na] at h1
    have N1 := Lib.hid h1
    clear hb0 hO hW0 h1 h2 na hn
    go_enter Tryz.func21, Tryz.ntmps21
    go_wp2_with (fail)
    rw [HW0.out]
    refine (N1.out _).mono ?_
    rintro e w' ⟨rfl, rfl⟩
    go_wp2_with (fail)
    go_ret2
    exact ⟨rfl, HB0.out⟩
  · rw [decide_eq_false na] at h1
    rw [decide_eq_true (hn.resolve_left na)] at h2
    have N1 := Lib.hid h1
    have N2 := Lib.hid h2
    clear hb0 hO hW0 h1 h2 na hn
    go_enter Tryz.func21, Tryz.ntmps21
    go_wp2_with (fail)
    rw [HW0.out]
    refine (N1.out _).mono ?_
    rintro e w' ⟨rfl, rfl⟩
    go_wp2_with (fail)
    refine (N2.out _).mono ?_
    rintro e w' ⟨rfl, rfl⟩
    go_wp2_with (fail)
    go_ret2
    exact ⟨rfl, HB0.out⟩
set_option maxRecDepth 100000 in
set_option maxHeartbeats 1000000 in
theorem tsame_ff (f f' : Nat) (s : Bool) (A : Option Addr) (n c : Nat) (s' : Bool) (A' : Option Addr) (n' c' : Nat) (w : World)
    (b : Bool) (hC : ∀ W, Calls Tryz.prog 215 #[.float .f64 f, .float .f64 f'] W fun e w' => e = .returned (.bool b) ∧ W = w') :
    Calls Tryz.prog 148 #[numA true f s A n c, numA true f' s' A' n' c'] w fun e w' => e = .returned (.bool b) ∧ Below w.heap.size w w' := by
  obtain ⟨W0, hW0, hb0, hO⟩ := two_num w true f s A n c true f' s' A' n' c'
  have HB0 := Lib.hid hb0
  have HW0 := Lib.hid hW0
  have C1 := Lib.hid ((hC W0).mono fun e w' ⟨h1, h2⟩ => (show e = Ending.returned (.bool b) ∧ Below W0.heap.size W0 w' from ⟨h1, h2 ▸ Below.refl _ _⟩))
  clear hb0 hO hW0 hC
  go_enter Tryz.func148, Tryz.ntmps148
  go_wp2_with (fail)
  rw [HW0.out]
  refine C1.out.mono ?_
  rintro e w1 ⟨rfl, hb1⟩
  go_wp2_with (fail)
  go_ret
  exact ⟨rfl, bel_trans (B := w.heap.size) HB0.out hb1⟩
set_option maxRecDepth 100000 in
set_option maxHeartbeats 1000000 in
theorem tsame_ii (f f' : Nat) (s : Bool) (A : Option Addr) (n c : Nat) (s' : Bool) (A' : Option Addr) (n' c' : Nat) (w : World)
    (b : Bool) (hC : ∀ W, Below w.heap.size w W → Calls Tryz.prog 216 #[.agg #[.bool s, .slice A n c], .agg #[.bool s', .slice A' n' c']] W fun e w' => e = .returned (.bool b) ∧ Below W.heap.size W w') :
    Calls Tryz.prog 148 #[numA false f s A n c, numA false f' s' A' n' c'] w fun e w' => e = .returned (.bool b) ∧ Below w.heap.size w w' := by
  obtain ⟨W0, hW0, hb0, hO⟩ := two_num w false f s A n c false f' s' A' n' c'
  have HB0 := Lib.hid hb0
  have HW0 := Lib.hid hW0
  have C1 := Lib.hid (hC W0 hb0)
  clear hb0 hO hW0 hC
  go_enter Tryz.func148, Tryz.ntmps148
  go_wp2_with (fail)
  rw [HW0.out]
  refine C1.out.mono ?_
  rintro e w1 ⟨rfl, hb1⟩
  go_wp2_with (fail)
  go_ret
  exact ⟨rfl, bel_trans (B := w.heap.size) HB0.out hb1⟩
set_option maxRecDepth 100000 in
set_option maxHeartbeats 1000000 in
theorem tsame_if (f f' : Nat) (s : Bool) (A : Option Addr) (n c : Nat) (s' : Bool) (A' : Option Addr) (n' c' : Nat) (w : World) :
    Calls Tryz.prog 148 #[numA false f s A n c, numA true f' s' A' n' c'] w fun e w' => e = .returned (.bool false) ∧ Below w.heap.size w w' := by
  obtain ⟨W0, hW0, hb0, hO⟩ := two_num w false f s A n c true f' s' A' n' c'
  have HB0 := Lib.hid hb0
  have HW0 := Lib.hid hW0
  obtain ⟨p0, p1, p2, p3, -, -, -, -, pl⟩ := hO.nx0.facts
  obtain ⟨q0, q1, q2, q3, -, -, -, -, ql⟩ := hO.tl.nx0.facts
  subst hW0
  clear hb0 hO
  go_enter Tryz.func148, Tryz.ntmps148
  go_wp2_with (fail)
  go_ret
  exact ⟨rfl, HB0.out⟩
set_option maxRecDepth 100000 in
set_option maxHeartbeats 1000000 in
theorem tsame_fi (f f' : Nat) (s : Bool) (A : Option Addr) (n c : Nat) (s' : Bool) (A' : Option Addr) (n' c' : Nat) (w : World) :
    Calls Tryz.prog 148 #[numA true f s A n c, numA false f' s' A' n' c'] w fun e w' => e = .returned (.bool false) ∧ Below w.heap.size w w' := by
  obtain ⟨W0, hW0, hb0, hO⟩ := two_num w true f s A n c false f' s' A' n' c'
  have HB0 := Lib.hid hb0
  have HW0 := Lib.hid hW0
  obtain ⟨p0, p1, p2, p3, -, -, -, -, pl⟩ := hO.nx0.facts
  obtain ⟨q0, q1, q2, q3, -, -, -, -, ql⟩ := hO.tl.nx0.facts
  subst hW0
  clear hb0 hO
  go_enter Tryz.func148, Tryz.ntmps148
  go_wp2_with (fail)
  go_ret
  exact ⟨rfl, HB0.out⟩
set_option maxRecDepth 100000 in
set_option maxHeartbeats 1000000 in
theorem rtsame_ff (f f' : Nat) (s : Bool) (A : Option Addr) (n c : Nat) (s' : Bool) (A' : Option Addr) (n' c' : Nat) (w : World)
    (b : Bool) (hC : ∀ W, Calls Tryz.prog 17 #[.float .f64 f, .float .f64 f'] W fun e w' => e = .returned (.bool b) ∧ W = w') :
    Calls Tryz.prog 78 #[numA true f s A n c, numA true f' s' A' n' c'] w fun e w' => e = .returned (.bool b) ∧ Below w.heap.size w w' := by
  obtain ⟨W0, hW0, hb0, hO⟩ := two_num w true f s A n c true f' s' A' n' c'
  have HB0 := Lib.hid hb0
  have HW0 := Lib.hid hW0
  have C1 := Lib.hid ((hC W0).mono fun e w' ⟨h1, h2⟩ => (show e = Ending.returned (.bool b) ∧ Below W0.heap.size W0 w' from ⟨h1, h2 ▸ Below.refl _ _⟩))
  clear hb0 hO hW0 hC
  go_enter Tryz.func78, Tryz.ntmps78
  go_wp2_with (fail)
  rw [HW0.out]
  refine C1.out.mono ?_
  rintro e w1 ⟨rfl, hb1⟩
  go_wp2_with (fail)
  go_ret
  exact ⟨rfl, bel_trans (B := w.heap.size) HB0.out hb1⟩
set_option maxRecDepth 100000 in
set_option maxHeartbeats 1000000 in
theorem rtsame_ii (f f' : Nat) (s : Bool) (A : Option Addr) (n c : Nat) (s' : Bool) (A' : Option Addr) (n' c' : Nat) (w : World)
    (b : Bool) (hC : ∀ W, Below w.heap.size w W → Calls Tryz.prog 143 #[.agg #[.bool s, .slice A n c], .agg #[.bool s', .slice A' n' c']] W fun e w' => e = .returned (.bool b) ∧ Below W.heap.size W w') :
    Calls Tryz.prog 78 #[numA false f s A n c, numA false f' s' A' n' c'] w fun e w' => e = .returned (.bool b) ∧ Below w.heap.size w w' := by
  obtain ⟨W0, hW0, hb0, hO⟩ := two_num w false f s A n c false f' s' A' n' c'
  have HB0 := Lib.hid hb0
  have HW0 := Lib.hid hW0
  have C1 := Lib.hid (hC W0 hb0)
  clear hb0 hO hW0 hC
  go_enter Tryz.func78, Tryz.ntmps78
  go_wp2_with (fail)
  rw [HW0.out]
  refine C1.out.mono ?_
  rintro e w1 ⟨rfl, hb1⟩
  go_wp2_with (fail)
  go_ret
  exact ⟨rfl, bel_trans (B := w.heap.size) HB0.out hb1⟩
set_option maxRecDepth 100000 in
set_option maxHeartbeats 1000000 in
theorem rtsame_if (f f' : Nat) (s : Bool) (A : Option Addr) (n c : Nat) (s' : Bool) (A' : Option Addr) (n' c' : Nat) (w : World) :
    Calls Tryz.prog 78 #[numA false f s A n c, numA true f' s' A' n' c'] w fun e w' => e = .returned (.bool false) ∧ Below w.heap.size w w' := by
  obtain ⟨W0, hW0, hb0, hO⟩ := two_num w false f s A n c true f' s' A' n' c'
  have HB0 := Lib.hid hb0
  have HW0 := Lib.hid hW0
  obtain ⟨p0, p1, p2, p3, -, -, -, -, pl⟩ := hO.nx0.facts
  obtain ⟨q0, q1, q2, q3, -, -, -, -, ql⟩ := hO.tl.nx0.facts
  subst hW0
  clear hb0 hO
  go_enter Tryz.func78, Tryz.ntmps78
  go_wp2_with (fail)
  go_ret
  exact ⟨rfl, HB0.out⟩
set_option maxRecDepth 100000 in
set_option maxHeartbeats 1000000 in
theorem rtsame_fi (f f' : Nat) (s : Bool) (A : Option Addr) (n c : Nat) (s' : Bool) (A' : Option Addr) (n' c' : Nat) (w : World) :
    Calls Tryz.prog 78 #[numA true f s A n c, numA false f' s' A' n' c'] w fun e w' => e = .returned (.bool false) ∧ Below w.heap.size w w' := by
  obtain ⟨W0, hW0, hb0, hO⟩ := two_num w true f s A n c false f' s' A' n' c'
  have HB0 := Lib.hid hb0
  have HW0 := Lib.hid hW0
  obtain ⟨p0, p1, p2, p3, -, -, -, -, pl⟩ := hO.nx0.facts
  obtain ⟨q0, q1, q2, q3, -, -, -, -, ql⟩ := hO.tl.nx0.facts
  subst hW0
  clear hb0 hO
  go_enter Tryz.func78, Tryz.ntmps78
  go_wp2_with (fail)
  go_ret
  exact ⟨rfl, HB0.out⟩
set_option maxRecDepth 100000 in
set_option maxHeartbeats 1000000 in
theorem rtint_any (z : Int) (h1 : -9223372036854775808 ≤ z) (h2 : z ≤ 9223372036854775807) (w : World) :
    Calls Tryz.prog 80 #[.int .i64 z] w (RetN w z) := by
  have hb0 : Below w.heap.size w (w.alloc (.cells #[.bool false, .float .f64 0, .bool false, .slice none 0 0] 38)) := (Below.refl _ w).alloc (Nat.le_refl _) _
  have Y0 := Lib.hid (Nx.new w false 0 false none 0 0)
  have HB0 := Lib.hid hb0
  have E1 := Lib.hid fun W => rof2c_int z h1 h2 W
  clear hb0
  go_enter Tryz.func80, Tryz.ntmps80
  go_wp2_with (fail)
  refine (E1.out _).mono ?_
  rintro e w1 ⟨s1, A1, n1, c1, rfl, hv1, hb1⟩
  have Y2 := Y0.out.below hb1
  have hbk := bel_trans (B := w.heap.size) HB0.out hb1
  obtain ⟨W, hW, ZR, hbW, hvW, -⟩ := stored_num Y2 hbk (by omega) false 0 s1 A1 n1 c1
  obtain ⟨z0, z1, z2, z3, -, -, -, -, zl⟩ := ZR.facts
  obtain ⟨y0, y1, y2, y3, y4, y5, y6, y7, yl⟩ := Y2.facts
  have HBW := Lib.hid hbW
  have HVW := Lib.hid (hvW _ _ hv1)
  clear hb1 hbk hbW hvW ZR Y2 hv1
  go_wp2_with (fail)
  first | rw [hW] | skip
  refine bodyPost_ret (v := .agg #[.bool false, .float .f64 0, .bool s1, .slice A1 n1 c1]) (by simp [results, Tryz.results80, go_sem, z0, z1, z2, z3]) rfl ?_
  exact ⟨s1, A1, n1, c1, rfl, HVW.out, HBW.out⟩
set_option maxRecDepth 100000 in
set_option maxHeartbeats 1000000 in
theorem rtflo_any (f : Nat) (w : World) :
    Calls Tryz.prog 140 #[.float .f64 f] w fun e w' => e = .returned (numA true f false none 0 0) ∧ Below w.heap.size w w' := by
  go_enter Tryz.func140, Tryz.ntmps140
  go_wp2_with (fail)
  refine bodyPost_ret (v := numA true f false none 0 0) (by simp [results, Tryz.results140, go_sem]) rfl ?_
  exact ⟨rfl, (Below.refl _ w).alloc (Nat.le_refl _) _⟩

end LM
end Go.Proofs.YtcfhiihhfcnfbaaGreatDoor
