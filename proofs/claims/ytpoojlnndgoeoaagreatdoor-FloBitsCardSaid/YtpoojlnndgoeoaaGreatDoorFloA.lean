/- Walks of the library's small functions for the digits of floating numbers: scaling by powers of ten. -/
import Derived.Test.YtpoojlnndgoeoaaGreatDoorProg
import Derived.Test.YtpoojlnndgoeoaaGreatDoorLimbWorld
import Derived.Test.YtpoojlnndgoeoaaGreatDoorFloTab
import Derived.Test.YtpoojlnndgoeoaaGreatDoorShelf
import Derived.Test.YtpoojlnndgoeoaaGreatDoorFloIeee
import Derived.Laws.FloatArith
import Derived.Laws.BitsAllLaws
namespace Go.Proofs.YtpoojlnndgoeoaaGreatDoor
open Go.RowKit
namespace LM

def l10I (x : Int) : Int := x * 78913 / 262144
def l2I (x : Int) : Int := x * 108853 / 32768
def skI (x : Int) : Int := (x * 631305 - 261663) / 2097152

set_option maxHeartbeats 400000 in
theorem l10_any (x : Int) (w : World) (h0 : -100000 ≤ x) (h1 : x ≤ 100000) :
    Calls Tryz.prog 144 #[.int .i64 x] w fun e w' => e = .returned (.int .i64 (l10I x)) ∧ w = w' := by
  go_enter Tryz.func144, Tryz.ntmps144
  go_wp2
  go_ret
  exact ⟨rfl, rfl⟩

set_option maxHeartbeats 400000 in
theorem l2_any (x : Int) (w : World) (h0 : -100000 ≤ x) (h1 : x ≤ 100000) :
    Calls Tryz.prog 181 #[.int .i64 x] w fun e w' => e = .returned (.int .i64 (l2I x)) ∧ w = w' := by
  go_enter Tryz.func181, Tryz.ntmps181
  go_wp2
  go_ret
  exact ⟨rfl, rfl⟩

set_option maxHeartbeats 400000 in
theorem skewed_any (x : Int) (w : World) (h0 : -100000 ≤ x) (h1 : x ≤ 100000) :
    Calls Tryz.prog 179 #[.int .i64 x] w fun e w' => e = .returned (.int .i64 (skI x)) ∧ w = w' := by
  go_enter Tryz.func179, Tryz.ntmps179
  go_wp2
  go_ret
  exact ⟨rfl, rfl⟩

set_option maxHeartbeats 400000 in
theorem bool2_u64 (b : Bool) (w : World) :
    Calls Tryz.prog 172 #[.bool b] w fun e w' => e = .returned (.int .u64 (if b then 1 else 0)) ∧ w = w' := by
  cases b
  all_goals
    go_enter Tryz.func172, Tryz.ntmps172
    go_wp2
    go_ret
    exact ⟨rfl, rfl⟩
set_option maxHeartbeats 400000 in
theorem bool2_int (b : Bool) (w : World) :
    Calls Tryz.prog 187 #[.bool b] w fun e w' => e = .returned (.int .i64 (if b then 1 else 0)) ∧ w = w' := by
  cases b
  all_goals
    go_enter Tryz.func187, Tryz.ntmps187
    go_wp2
    go_ret
    exact ⟨rfl, rfl⟩

set_option maxHeartbeats 400000 in
theorem unmin_any (x : Nat) (w : World) (hx : x < 4503599627370496 * 4 + 1) (h0 : 0 < x) :
    Calls Tryz.prog 188 #[.int .u64 (x : Int)] w fun e w' => e = .returned (.int .u64 ((4 * x - 2 : Nat) : Int)) ∧ w = w' := by
  go_enter Tryz.func188, Tryz.ntmps188
  go_wp2
  go_ret
  refine ⟨?_, rfl⟩
  rw [show ((4 * x - 2 : Nat) : Int) = (x : Int) * 4 - 2 from by omega]
  rfl

/-- what the scaling knows -/
structure Sc where
  hi : Nat
  lo : Nat
  s : Nat
def Sc.ok (c : Sc) : Prop := c.hi < 18446744073709551616 ∧ c.lo < 18446744073709551616 ∧ c.s < 64
def Sc.cells (c : Sc) : List Value := [.int .u64 (c.hi : Int), .int .u64 (c.lo : Int), .int .i64 (c.s : Int)]
/-- the block in which it stands -/
def ScAt (w : World) (g : Nat) (c : Sc) : Prop := w.heap[g]? = some (.cells c.cells.toArray 190 (0, 0))

/-- a number times a power of two and of ten, unrounded -/
def uscaleN (x : Nat) (c : Sc) : Nat :=
  let H := x * c.hi / 18446744073709551616
  let M := x * c.hi % 18446744073709551616
  if H / 2 ^ c.s * 2 ^ c.s = H then
    let M2 := x * c.lo / 18446744073709551616
    let H2 := (H + 18446744073709551616 - (if M < M2 then 1 else 0)) % 18446744073709551616
    (H2 / 2 ^ c.s) ||| (if 1 < (M + 18446744073709551616 - M2) % 18446744073709551616 then 1 else 0)
  else (H / 2 ^ c.s) ||| 1

theorem i64_and_nat (a b : Nat) (ha : a < 9223372036854775808) (hb : b < 9223372036854775808) : bits .and .i64 (a : Int) (b : Int) = ((a &&& b : Nat) : Int) := by
  have h : (a &&& b) ≤ a := Nat.and_le_left
  have e : (BitVec.ofInt 64 (a : Int) &&& BitVec.ofInt 64 (b : Int)).toNat = a &&& b := by
    rw [BitVec.toNat_and, ofInt_u64 a (by omega), ofInt_u64 b (by omega)]
  show IntKind.i64.wrap ((BitVec.ofInt 64 (a : Int) &&& BitVec.ofInt 64 (b : Int)).toNat : Nat) = _
  rw [e]
  simp [IntKind.wrap, IntKind.bits, IntKind.signed]
  omega
theorem u64w (n : Int) : IntKind.u64.wrap n = n % 18446744073709551616 := by simp [IntKind.wrap, IntKind.bits, IntKind.signed]
theorem and63 (s : Nat) (hs : s < 64) : bits .and .i64 (s : Int) 63 = (s : Int) := by
  have h := i64_and_nat s 63 (by omega) (by decide)
  have e : s &&& 63 = s := by rw [nat_mask6, Nat.mod_eq_of_lt hs]
  rw [e] at h
  exact h

set_option maxRecDepth 100000 in
set_option maxHeartbeats 1000000 in
theorem uscale_any (x g : Nat) (c : Sc) (w : World) (hx : x < 18446744073709551616) (hc : c.ok) (hg : ScAt w g c) :
    Calls Tryz.prog 182 #[.int .u64 (x : Int), .pointer (some ⟨g, 0, none⟩)] w fun e w' => e = .returned (.int .u64 ((uscaleN x c : Nat) : Int)) ∧ ∃ k, w' = w.drewN k := by
  obtain ⟨h1, h2, h3⟩ := hc
  obtain ⟨hi, lo, s⟩ := c
  have c0 : w.cell? ⟨g, 0, none⟩ = some (.int .u64 (hi : Int)) := by rw [cell_of_row w g 0 _ _ (0, 0) hg]; rfl
  have c1 : w.cell? ⟨g, 1, none⟩ = some (.int .u64 (lo : Int)) := by rw [cell_of_row w g 1 _ _ (0, 0) hg]; rfl
  have c2 : w.cell? ⟨g, 2, none⟩ = some (.int .i64 (s : Int)) := by rw [cell_of_row w g 2 _ _ (0, 0) hg]; rfl
  dsimp only at h1 h2 h3
  have b63 := and63 s h3
  have m1 := fun W => Tryz.bits_Mul64 x hi hx h1 W
  have m2 := fun W => Tryz.bits_Mul64 x lo hx h2 W
  obtain ⟨H, hH⟩ : ∃ H, x * hi / 18446744073709551616 = H := ⟨_, rfl⟩
  obtain ⟨M, hM⟩ : ∃ M, x * hi % 18446744073709551616 = M := ⟨_, rfl⟩
  obtain ⟨M2, hM2⟩ : ∃ M2, x * lo / 18446744073709551616 = M2 := ⟨_, rfl⟩
  rw [hH, hM] at m1
  rw [hM2] at m2
  have hHl : H < 18446744073709551616 := by
    rw [← hH]
    exact Nat.div_lt_of_lt_mul (Nat.lt_of_le_of_lt (Nat.mul_le_mul_right hi (Nat.le_of_lt hx)) (Nat.mul_lt_mul_of_pos_left h1 (by decide)))
  have hMl : M < 18446744073709551616 := by rw [← hM]; exact Nat.mod_lt _ (by decide)
  have hM2l : M2 < 18446744073709551616 := by
    rw [← hM2]
    exact Nat.div_lt_of_lt_mul (Nat.lt_of_le_of_lt (Nat.mul_le_mul_right lo (Nat.le_of_lt hx)) (Nat.mul_lt_mul_of_pos_left h2 (by decide)))
  obtain ⟨p, hp⟩ : ∃ p, 2 ^ s = p := ⟨_, rfl⟩
  have hmin : min s 64 = s := Nat.min_eq_left (by omega)
  have hpi : (2 : Int) ^ s = (p : Int) := by rw [← hp]; push_cast; rfl
  obtain ⟨q, hq⟩ : ∃ q, H / p = q := ⟨_, rfl⟩
  have hqi : (H : Int) / (p : Int) = (q : Int) := by rw [← hq]; push_cast; rfl
  obtain ⟨r, hr⟩ : ∃ r, q * p = r := ⟨_, rfl⟩
  have hri : (q : Int) * (p : Int) = (r : Int) := by rw [← hr]; push_cast; rfl
  have hrl : r ≤ H := by rw [← hr, ← hq]; exact Nat.div_mul_le_self H p
  have hql : q ≤ H := by rw [← hq]; exact Nat.div_le_self _ _
  have MM1 := Lib.hid m1
  have MM2 := Lib.hid m2
  have HH := Lib.hid hH
  have HM := Lib.hid hM
  have HM2 := Lib.hid hM2
  have HP := Lib.hid hp
  have HQ := Lib.hid hq
  have HR := Lib.hid hr
  clear hg m1 m2 hH hM hM2 hp hq hr
  have bo1 : bits .or .u64 (q : Int) 1 = ((q ||| 1 : Nat) : Int) := u64_or_nat q 1 (by omega) (by decide)
  by_cases hrH : r = H
  · have d1 : ((r : Int) == (H : Int)) = true := by rw [hrH]; exact beq_self_eq_true _
    obtain ⟨H2, hH2⟩ : ∃ H2, (H + 18446744073709551616 - (if M < M2 then 1 else 0)) % 18446744073709551616 = H2 := ⟨_, rfl⟩
    obtain ⟨D, hD⟩ : ∃ D, (M + 18446744073709551616 - M2) % 18446744073709551616 = D := ⟨_, rfl⟩
    have hH2l : H2 < 18446744073709551616 := by omega
    have dd : IntKind.u64.wrap ((M : Int) - (M2 : Int)) = (D : Int) := by rw [u64w]; omega
    obtain ⟨q2, hq2⟩ : ∃ q2, H2 / p = q2 := ⟨_, rfl⟩
    have hq2i : (H2 : Int) / (p : Int) = (q2 : Int) := by rw [← hq2]; push_cast; rfl
    have hq2l : q2 ≤ H2 := by rw [← hq2]; exact Nat.div_le_self _ _
    have bo2 : bits .or .u64 (q2 : Int) 1 = ((q2 ||| 1 : Nat) : Int) := u64_or_nat q2 1 (by omega) (by decide)
    have bo3 : bits .or .u64 (q2 : Int) 0 = (q2 : Int) := by
      have h := u64_or_nat q2 0 (by omega) (by decide)
      rw [Nat.or_zero] at h
      exact h
    have HE : Hid (uscaleN x ⟨hi, lo, s⟩ = q2 ||| (if 1 < D then 1 else 0)) := Lib.hid (by
      unfold uscaleN
      dsimp only
      rw [HH.out, HM.out, HM2.out, HP.out, HQ.out, HR.out, if_pos hrH, hH2, hD, hq2])
    rcases Nat.lt_or_ge M M2 with hlt | hge
    · have d2 : decide (M < M2) = true := decide_eq_true (by omega)
      have hH2i : IntKind.u64.wrap ((H : Int) - 1) = (H2 : Int) := by rw [if_pos hlt] at hH2; rw [u64w]; omega
      have B1 := Lib.hid (bool2_u64 true)
      clear hH2 hq2 hD hrH
      rcases Nat.lt_or_ge 1 D with h1D | h1D
      · have d3 : decide (1 < (D : Int)) = true := decide_eq_true (by omega)
        have B2 := Lib.hid (bool2_u64 true)
        rw [if_pos h1D] at HE
        go_enter Tryz.func182, Tryz.ntmps182
        go_wp2_with fail
        refine (MM1.out _).mono ?_
        rintro e w' ⟨rfl, rfl⟩
        go_wp2_with fail
        refine (MM2.out _).mono ?_
        rintro e w' ⟨rfl, rfl⟩
        go_wp2_with fail
        refine (B1.out _).mono ?_
        rintro e w' ⟨rfl, rfl⟩
        go_wp2_with fail
        go_region_with (go_at_call 172; refine (B2.out _).mono ?_; rintro e w' ⟨rfl, rfl⟩)
        all_goals
          go_wp2
          go_ret
          rw [HE.out]
          first | exact ⟨rfl, 1, rfl⟩ | exact ⟨rfl, 0, rfl⟩ | exact ⟨rfl, 2, rfl⟩
      · have d3 : decide (1 < (D : Int)) = false := decide_eq_false (by omega)
        have B2 := Lib.hid (bool2_u64 false)
        rw [if_neg (by omega), Nat.or_zero] at HE
        go_enter Tryz.func182, Tryz.ntmps182
        go_wp2_with fail
        refine (MM1.out _).mono ?_
        rintro e w' ⟨rfl, rfl⟩
        go_wp2_with fail
        refine (MM2.out _).mono ?_
        rintro e w' ⟨rfl, rfl⟩
        go_wp2_with fail
        refine (B1.out _).mono ?_
        rintro e w' ⟨rfl, rfl⟩
        go_wp2_with fail
        go_region_with (go_at_call 172; refine (B2.out _).mono ?_; rintro e w' ⟨rfl, rfl⟩)
        all_goals
          go_wp2
          go_ret
          rw [HE.out]
          first | exact ⟨rfl, 1, rfl⟩ | exact ⟨rfl, 0, rfl⟩ | exact ⟨rfl, 2, rfl⟩
    · have d2 : decide (M < M2) = false := decide_eq_false (by omega)
      obtain rfl : H = H2 := by rw [if_neg (by omega)] at hH2; omega
      obtain rfl : q = q2 := HQ.out.symm.trans hq2
      have B1 := Lib.hid (bool2_u64 false)
      clear hH2 hq2 hD hrH
      rcases Nat.lt_or_ge 1 D with h1D | h1D
      · have d3 : decide (1 < (D : Int)) = true := decide_eq_true (by omega)
        have B2 := Lib.hid (bool2_u64 true)
        rw [if_pos h1D] at HE
        go_enter Tryz.func182, Tryz.ntmps182
        go_wp2_with fail
        refine (MM1.out _).mono ?_
        rintro e w' ⟨rfl, rfl⟩
        go_wp2_with fail
        refine (MM2.out _).mono ?_
        rintro e w' ⟨rfl, rfl⟩
        go_wp2_with fail
        refine (B1.out _).mono ?_
        rintro e w' ⟨rfl, rfl⟩
        go_wp2_with fail
        go_region_with (go_at_call 172; refine (B2.out _).mono ?_; rintro e w' ⟨rfl, rfl⟩)
        all_goals
          go_wp2
          go_ret
          rw [HE.out]
          first | exact ⟨rfl, 1, rfl⟩ | exact ⟨rfl, 0, rfl⟩ | exact ⟨rfl, 2, rfl⟩
      · have d3 : decide (1 < (D : Int)) = false := decide_eq_false (by omega)
        have B2 := Lib.hid (bool2_u64 false)
        rw [if_neg (by omega), Nat.or_zero] at HE
        go_enter Tryz.func182, Tryz.ntmps182
        go_wp2_with fail
        refine (MM1.out _).mono ?_
        rintro e w' ⟨rfl, rfl⟩
        go_wp2_with fail
        refine (MM2.out _).mono ?_
        rintro e w' ⟨rfl, rfl⟩
        go_wp2_with fail
        refine (B1.out _).mono ?_
        rintro e w' ⟨rfl, rfl⟩
        go_wp2_with fail
        go_region_with (go_at_call 172; refine (B2.out _).mono ?_; rintro e w' ⟨rfl, rfl⟩)
        all_goals
          go_wp2
          go_ret
          rw [HE.out]
          first | exact ⟨rfl, 1, rfl⟩ | exact ⟨rfl, 0, rfl⟩ | exact ⟨rfl, 2, rfl⟩
  · have d1 : ((r : Int) == (H : Int)) = false := by rw [beq_eq_false_iff_ne]; omega
    have HE : Hid (uscaleN x ⟨hi, lo, s⟩ = q ||| 1) := Lib.hid (by
      unfold uscaleN
      dsimp only
      rw [HH.out, HP.out, HQ.out, HR.out, if_neg hrH])
    go_enter Tryz.func182, Tryz.ntmps182
    go_wp2_with fail
    refine (MM1.out _).mono ?_
    rintro e w' ⟨rfl, rfl⟩
    go_wp2
    go_ret
    rw [HE.out]
    first | exact ⟨rfl, 1, rfl⟩ | exact ⟨rfl, 0, rfl⟩ | exact ⟨rfl, 2, rfl⟩

end LM
end Go.Proofs.YtpoojlnndgoeoaaGreatDoor
