/- A buffer of bytes that a call fills, beside the digits that it reads: what stays as it was from append to append. -/
import Derived.Test.YtnpmfailpgbggaaGreatDoorProg
import Derived.Test.YtnpmfailpgbggaaGreatDoorK02
import Derived.Test.YtnpmfailpgbggaaGreatDoorK22
import Derived.Test.YtnpmfailpgbggaaGreatDoorK09
import Derived.Test.YtnpmfailpgbggaaGreatDoorK23
import Derived.Laws.FloatArith
import Derived.Laws.BitsAllLaws
import Derived.Test.YtnpmfailpgbggaaGreatDoorK11
import Derived.Lib.ItoaMem
import Derived.Laws.AppendOwn
import Derived.Deep.CutRange
import Derived.Deep.DeepCutAuto
namespace Go.Proofs.YtnpmfailpgbggaaGreatDoor
open Go.RowKit
namespace LM

def l2I (x : Int) : Int := x * 108853 / 32768
set_option maxHeartbeats 400000 in
theorem l2_any (x : Int) (w : World) (h0 : -100000 ≤ x) (h1 : x ≤ 100000) :
    Calls Tryz.prog 226 #[.int .i64 x] w fun e w' => e = .returned (.int .i64 (l2I x)) ∧ w = w' := by
  go_enter Tryz.func226, Tryz.ntmps226
  go_wp2
  go_ret
  exact ⟨rfl, rfl⟩

set_option maxHeartbeats 400000 in
theorem bool2_u64 (b : Bool) (w : World) :
    Calls Tryz.prog 251 #[.bool b] w fun e w' => e = .returned (.int .u64 (if b then 1 else 0)) ∧ w = w' := by
  cases b
  all_goals
    go_enter Tryz.func251, Tryz.ntmps251
    go_wp2
    go_ret
    exact ⟨rfl, rfl⟩
set_option maxHeartbeats 400000 in
theorem bool2_int (b : Bool) (w : World) :
    Calls Tryz.prog 212 #[.bool b] w fun e w' => e = .returned (.int .i64 (if b then 1 else 0)) ∧ w = w' := by
  cases b
  all_goals
    go_enter Tryz.func212, Tryz.ntmps212
    go_wp2
    go_ret
    exact ⟨rfl, rfl⟩

set_option maxHeartbeats 400000 in
theorem unmin_any (x : Nat) (w : World) (hx : x < 4503599627370496 * 4 + 1) (h0 : 0 < x) :
    Calls Tryz.prog 232 #[.int .u64 (x : Int)] w fun e w' => e = .returned (.int .u64 ((4 * x - 2 : Nat) : Int)) ∧ w = w' := by
  go_enter Tryz.func232, Tryz.ntmps232
  go_wp2
  go_ret
  refine ⟨?_, rfl⟩
  rw [show ((4 * x - 2 : Nat) : Int) = (x : Int) * 4 - 2 from by omega]
  rfl

/-- what the scaling knows -/
structure Sc where
  hi : Nat
  lo : Nat
  s : Nat
def Sc.ok (c : Sc) : Prop := c.hi < 18446744073709551616 ∧ c.lo < 18446744073709551616 ∧ c.s < 64
def Sc.cells (c : Sc) : List Value := [.int .u64 (c.hi : Int), .int .u64 (c.lo : Int), .int .i64 (c.s : Int)]
/-- the block in which it stands -/
def ScAt (w : World) (g : Nat) (c : Sc) : Prop := w.heap[g]? = some (.cells c.cells.toArray 222 (0, 0))

/-- a number times a power of two and of ten, unrounded -/
def uscaleN (x : Nat) (c : Sc) : Nat :=
  let H := x * c.hi / 18446744073709551616
  let M := x * c.hi % 18446744073709551616
  if H / 2 ^ c.s * 2 ^ c.s = H then
    let M2 := x * c.lo / 18446744073709551616
    let H2 := (H + 18446744073709551616 - (if M < M2 then 1 else 0)) % 18446744073709551616
    (H2 / 2 ^ c.s) ||| (if 1 < (M + 18446744073709551616 - M2) % 18446744073709551616 then 1 else 0)
  else (H / 2 ^ c.s) ||| 1

theorem i64_and_nat (a b : Nat) (ha : a < 9223372036854775808) (hb : b < 9223372036854775808) : bits .and .i64 (a : Int) (b : Int) = ((a &&& b : Nat) : Int) := by
  have h : (a &&& b) ≤ a := Nat.and_le_left
  have e : (BitVec.ofInt 64 (a : Int) &&& BitVec.ofInt 64 (b : Int)).toNat = a &&& b := by
    rw [BitVec.toNat_and, ofInt_u64 a (by omega), ofInt_u64 b (by omega)]
  show IntKind.i64.wrap ((BitVec.ofInt 64 (a : Int) &&& BitVec.ofInt 64 (b : Int)).toNat : Nat) = _
  rw [e]
  simp [IntKind.wrap, IntKind.bits, IntKind.signed]
  omega
theorem u64w (n : Int) : IntKind.u64.wrap n = n % 18446744073709551616 := by simp [IntKind.wrap, IntKind.bits, IntKind.signed]
theorem and63 (s : Nat) (hs : s < 64) : bits .and .i64 (s : Int) 63 = (s : Int) := by
  have h := i64_and_nat s 63 (by omega) (by decide)
  have e : s &&& 63 = s := by rw [nat_mask6, Nat.mod_eq_of_lt hs]
  rw [e] at h
  exact h

set_option maxRecDepth 100000 in
set_option maxHeartbeats 1000000 in
theorem uscale_any (x g : Nat) (c : Sc) (w : World) (hx : x < 18446744073709551616) (hc : c.ok) (hg : ScAt w g c) :
    Calls Tryz.prog 227 #[.int .u64 (x : Int), .pointer (some ⟨g, 0, none⟩)] w fun e w' => e = .returned (.int .u64 ((uscaleN x c : Nat) : Int)) ∧ ∃ k, w' = w.drewN k := by
  obtain ⟨h1, h2, h3⟩ := hc
  obtain ⟨hi, lo, s⟩ := c
  have c0 : w.cell? ⟨g, 0, none⟩ = some (.int .u64 (hi : Int)) := by rw [cell_of_row w g 0 _ _ (0, 0) hg]; rfl
  have c1 : w.cell? ⟨g, 1, none⟩ = some (.int .u64 (lo : Int)) := by rw [cell_of_row w g 1 _ _ (0, 0) hg]; rfl
  have c2 : w.cell? ⟨g, 2, none⟩ = some (.int .i64 (s : Int)) := by rw [cell_of_row w g 2 _ _ (0, 0) hg]; rfl
  dsimp only at h1 h2 h3
  have b63 := and63 s h3
  have m1 := fun W => Tryz.bits_Mul64 x hi hx h1 W
  have m2 := fun W => Tryz.bits_Mul64 x lo hx h2 W
  obtain ⟨H, hH⟩ : ∃ H, x * hi / 18446744073709551616 = H := ⟨_, rfl⟩
  obtain ⟨M, hM⟩ : ∃ M, x * hi % 18446744073709551616 = M := ⟨_, rfl⟩
  obtain ⟨M2, hM2⟩ : ∃ M2, x * lo / 18446744073709551616 = M2 := ⟨_, rfl⟩
  rw [hH, hM] at m1
  rw [hM2] at m2
  have hHl : H < 18446744073709551616 := by
    rw [← hH]
    exact Nat.div_lt_of_lt_mul (Nat.lt_of_le_of_lt (Nat.mul_le_mul_right hi (Nat.le_of_lt hx)) (Nat.mul_lt_mul_of_pos_left h1 (by decide)))
  have hMl : M < 18446744073709551616 := by rw [← hM]; exact Nat.mod_lt _ (by decide)
  have hM2l : M2 < 18446744073709551616 := by
    rw [← hM2]
    exact Nat.div_lt_of_lt_mul (Nat.lt_of_le_of_lt (Nat.mul_le_mul_right lo (Nat.le_of_lt hx)) (Nat.mul_lt_mul_of_pos_left h2 (by decide)))
  obtain ⟨p, hp⟩ : ∃ p, 2 ^ s = p := ⟨_, rfl⟩
  have hmin : min s 64 = s := Nat.min_eq_left (by omega)
  have hpi : (2 : Int) ^ s = (p : Int) := by rw [← hp]; push_cast; rfl
  obtain ⟨q, hq⟩ : ∃ q, H / p = q := ⟨_, rfl⟩
  have hqi : (H : Int) / (p : Int) = (q : Int) := by rw [← hq]; push_cast; rfl
  obtain ⟨r, hr⟩ : ∃ r, q * p = r := ⟨_, rfl⟩
  have hri : (q : Int) * (p : Int) = (r : Int) := by rw [← hr]; push_cast; rfl
  have hrl : r ≤ H := by rw [← hr, ← hq]; exact Nat.div_mul_le_self H p
  have hql : q ≤ H := by rw [← hq]; exact Nat.div_le_self _ _
  have MM1 := Lib.hid m1
  have MM2 := Lib.hid m2
  have HH := Lib.hid hH
  have HM := Lib.hid hM
  have HM2 := Lib.hid hM2
  have HP := Lib.hid hp
  have HQ := Lib.hid hq
  have HR := Lib.hid hr
  clear hg m1 m2 hH hM hM2 hp hq hr
  have bo1 : bits .or .u64 (q : Int) 1 = ((q ||| 1 : Nat) : Int) := u64_or_nat q 1 (by omega) (by decide)
  by_cases hrH : r = H
  · have d1 : ((r : Int) == (H : Int)) = true := by rw [hrH]; exact beq_self_eq_true _
    obtain ⟨H2, hH2⟩ : ∃ H2, (H + 18446744073709551616 - (if M < M2 then 1 else 0)) % 18446744073709551616 = H2 := ⟨_, rfl⟩
    obtain ⟨D, hD⟩ : ∃ D, (M + 18446744073709551616 - M2) % 18446744073709551616 = D := ⟨_, rfl⟩
    have hH2l : H2 < 18446744073709551616 := by omega
    have dd : IntKind.u64.wrap ((M : Int) - (M2 : Int)) = (D : Int) := by rw [u64w]; omega
    obtain ⟨q2, hq2⟩ : ∃ q2, H2 / p = q2 := ⟨_, rfl⟩
    have hq2i : (H2 : Int) / (p : Int) = (q2 : Int) := by rw [← hq2]; push_cast; rfl
    have hq2l : q2 ≤ H2 := by rw [← hq2]; exact Nat.div_le_self _ _
    have bo2 : bits .or .u64 (q2 : Int) 1 = ((q2 ||| 1 : Nat) : Int) := u64_or_nat q2 1 (by omega) (by decide)
    have bo3 : bits .or .u64 (q2 : Int) 0 = (q2 : Int) := by
      have h := u64_or_nat q2 0 (by omega) (by decide)
      rw [Nat.or_zero] at h
      exact h
    have HE : Hid (uscaleN x ⟨hi, lo, s⟩ = q2 ||| (if 1 < D then 1 else 0)) := Lib.hid (by
      unfold uscaleN
      dsimp only
      rw [HH.out, HM.out, HM2.out, HP.out, HQ.out, HR.out, if_pos hrH, hH2, hD, hq2])
    rcases Nat.lt_or_ge M M2 with hlt | hge
    · have d2 : decide (M < M2) = true := decide_eq_true (by omega)
      have hH2i : IntKind.u64.wrap ((H : Int) - 1) = (H2 : Int) := by rw [if_pos hlt] at hH2; rw [u64w]; omega
      have B1 := Lib.hid (bool2_u64 true)
      clear hH2 hq2 hD hrH
      rcases Nat.lt_or_ge 1 D with h1D | h1D
      · have d3 : decide (1 < (D : Int)) = true := decide_eq_true (by omega)
        have B2 := Lib.hid (bool2_u64 true)
        rw [if_pos h1D] at HE
        go_enter Tryz.func227, Tryz.ntmps227
        go_wp2_with fail
        refine (MM1.out _).mono ?_
        rintro e w' ⟨rfl, rfl⟩
        go_wp2_with fail
        refine (MM2.out _).mono ?_
        rintro e w' ⟨rfl, rfl⟩
        go_wp2_with fail
        refine (B1.out _).mono ?_
        rintro e w' ⟨rfl, rfl⟩
        go_wp2_with fail
        go_region_with (go_at_call 251; refine (B2.out _).mono ?_; rintro e w' ⟨rfl, rfl⟩)
        all_goals
          go_wp2
          go_ret
          rw [HE.out]
          first | exact ⟨rfl, 1, rfl⟩ | exact ⟨rfl, 0, rfl⟩ | exact ⟨rfl, 2, rfl⟩
      · have d3 : decide (1 < (D : Int)) = false := decide_eq_false (by omega)
        have B2 := Lib.hid (bool2_u64 false)
        rw [if_neg (by omega), Nat.or_zero] at HE
        go_enter Tryz.func227, Tryz.ntmps227
        go_wp2_with fail
        refine (MM1.out _).mono ?_
        rintro e w' ⟨rfl, rfl⟩
        go_wp2_with fail
        refine (MM2.out _).mono ?_
        rintro e w' ⟨rfl, rfl⟩
        go_wp2_with fail
        refine (B1.out _).mono ?_
        rintro e w' ⟨rfl, rfl⟩
        go_wp2_with fail
        go_region_with (go_at_call 251; refine (B2.out _).mono ?_; rintro e w' ⟨rfl, rfl⟩)
        all_goals
          go_wp2
          go_ret
          rw [HE.out]
          first | exact ⟨rfl, 1, rfl⟩ | exact ⟨rfl, 0, rfl⟩ | exact ⟨rfl, 2, rfl⟩
    · have d2 : decide (M < M2) = false := decide_eq_false (by omega)
      obtain rfl : H = H2 := by rw [if_neg (by omega)] at hH2; omega
      obtain rfl : q = q2 := HQ.out.symm.trans hq2
      have B1 := Lib.hid (bool2_u64 false)
      clear hH2 hq2 hD hrH
      rcases Nat.lt_or_ge 1 D with h1D | h1D
      · have d3 : decide (1 < (D : Int)) = true := decide_eq_true (by omega)
        have B2 := Lib.hid (bool2_u64 true)
        rw [if_pos h1D] at HE
        go_enter Tryz.func227, Tryz.ntmps227
        go_wp2_with fail
        refine (MM1.out _).mono ?_
        rintro e w' ⟨rfl, rfl⟩
        go_wp2_with fail
        refine (MM2.out _).mono ?_
        rintro e w' ⟨rfl, rfl⟩
        go_wp2_with fail
        refine (B1.out _).mono ?_
        rintro e w' ⟨rfl, rfl⟩
        go_wp2_with fail
        go_region_with (go_at_call 251; refine (B2.out _).mono ?_; rintro e w' ⟨rfl, rfl⟩)
        all_goals
          go_wp2
          go_ret
          rw [HE.out]
          first | exact ⟨rfl, 1, rfl⟩ | exact ⟨rfl, 0, rfl⟩ | exact ⟨rfl, 2, rfl⟩
      · have d3 : decide (1 < (D : Int)) = false := decide_eq_false (by omega)
        have B2 := Lib.hid (bool2_u64 false)
        rw [if_neg (by omega), Nat.or_zero] at HE
        go_enter Tryz.func227, Tryz.ntmps227
        go_wp2_with fail
        refine (MM1.out _).mono ?_
        rintro e w' ⟨rfl, rfl⟩
        go_wp2_with fail
        refine (MM2.out _).mono ?_
        rintro e w' ⟨rfl, rfl⟩
        go_wp2_with fail
        refine (B1.out _).mono ?_
        rintro e w' ⟨rfl, rfl⟩
        go_wp2_with fail
        go_region_with (go_at_call 251; refine (B2.out _).mono ?_; rintro e w' ⟨rfl, rfl⟩)
        all_goals
          go_wp2
          go_ret
          rw [HE.out]
          first | exact ⟨rfl, 1, rfl⟩ | exact ⟨rfl, 0, rfl⟩ | exact ⟨rfl, 2, rfl⟩
  · have d1 : ((r : Int) == (H : Int)) = false := by rw [beq_eq_false_iff_ne]; omega
    have HE : Hid (uscaleN x ⟨hi, lo, s⟩ = q ||| 1) := Lib.hid (by
      unfold uscaleN
      dsimp only
      rw [HH.out, HP.out, HQ.out, HR.out, if_neg hrH])
    go_enter Tryz.func227, Tryz.ntmps227
    go_wp2_with fail
    refine (MM1.out _).mono ?_
    rintro e w' ⟨rfl, rfl⟩
    go_wp2
    go_ret
    rw [HE.out]
    first | exact ⟨rfl, 1, rfl⟩ | exact ⟨rfl, 0, rfl⟩ | exact ⟨rfl, 2, rfl⟩

end LM
end Go.Proofs.YtnpmfailpgbggaaGreatDoor

namespace Go.Proofs.YtnpmfailpgbggaaGreatDoor
open Go.RowKit
namespace LM
set_option linter.unusedVariables false

def roundN (u : Nat) : Nat := (u + 1 + u / 4 % 2) % 18446744073709551616 / 4
set_option maxHeartbeats 400000 in
theorem round_unr (u : Nat) (w : World) (hu : u < 18446744073709551616) :
    Calls Tryz.prog 231 #[.int .u64 (u : Int)] w fun e w' => e = .returned (.int .u64 ((roundN u : Nat) : Int)) ∧ w = w' := by
  obtain ⟨a, ha⟩ : ∃ a, (u + 1) % 18446744073709551616 = a := ⟨_, rfl⟩
  obtain ⟨v, hv⟩ : ∃ v, (u + 1 + u / 4 % 2) % 18446744073709551616 = v := ⟨_, rfl⟩
  obtain ⟨q, hq⟩ : ∃ q, u / 4 = q := ⟨_, rfl⟩
  obtain ⟨b, hb⟩ : ∃ b, q % 2 = b := ⟨_, rfl⟩
  have hqi : (u : Int) / 4 = (q : Int) := by omega
  have hai : IntKind.u64.wrap ((u : Int) + 1) = (a : Int) := by rw [u64w]; omega
  have hbi : bits .and .u64 (q : Int) 1 = (b : Int) := by
    have h := u64_and_nat q 1 (by omega) (by decide)
    have h2 : q &&& 1 = b := by rw [nat_mask1, hb]
    rw [h2] at h
    exact h
  have hvn : (a + b) % 18446744073709551616 = v := by rw [← hv, ← ha, ← hb, ← hq, Nat.mod_add_mod]
  have hvi : IntKind.u64.wrap ((a : Int) + (b : Int)) = (v : Int) := by rw [u64w, ← hvn]; exact (Int.natCast_emod (a + b) 18446744073709551616).symm
  have e : roundN u = v / 4 := by unfold roundN; rw [hv]
  rw [e]
  clear hv hvn ha hb
  go_enter Tryz.func231, Tryz.ntmps231
  go_wp2
  go_ret
  exact ⟨rfl, rfl⟩
/-- the library's power of ten -/
def powRow (p : Int) : Nat × Nat := (Go.Pinned.pow10Rows[(p + 348).toNat]?).getD (0, 0)
def mkSc (e p : Int) : Sc := ⟨(powRow p).1, (powRow p).2, (-(e + l2I p + 3)).toNat⟩

set_option maxRecDepth 1000000 in
theorem rows_len : Go.Pinned.pow10Rows.length = 696 := by kernel_rfl
set_option maxRecDepth 1000000 in
theorem rows_lt : (Go.Pinned.pow10Rows.all fun x => decide (x.1 < 18446744073709551616) && decide (x.2 < 18446744073709551616)) = true := by kernel_rfl
theorem powRow_at {p : Int} (h0 : -348 ≤ p) (h1 : p ≤ 347) : Go.Pinned.pow10Rows[(p + 348).toNat]? = some (powRow p) := by
  have h : (p + 348).toNat < Go.Pinned.pow10Rows.length := by rw [rows_len]; omega
  unfold powRow
  rw [List.getElem?_eq_getElem h]
  rfl
theorem powRow_lt {p : Int} (h0 : -348 ≤ p) (h1 : p ≤ 347) : (powRow p).1 < 18446744073709551616 ∧ (powRow p).2 < 18446744073709551616 := by
  have h := List.mem_of_getElem? (powRow_at h0 h1)
  have h2 := List.all_eq_true.1 rows_lt _ h
  simp at h2
  exact h2

theorem sc_set {w : World} {g : Nat} {v0 v1 v2 : Value} (hi lo s : Nat) (hg : w.heap[g]? = some (.cells #[v0, v1, v2] 222 (0, 0))) :
    ScAt (((w.setCell ⟨g, 0, none⟩ (.int .u64 (hi : Int))).setCell ⟨g, 1, none⟩ (.int .u64 (lo : Int))).setCell ⟨g, 2, none⟩ (.int .i64 (s : Int))) g ⟨hi, lo, s⟩ ∧
    w.grownBy (((w.setCell ⟨g, 0, none⟩ (.int .u64 (hi : Int))).setCell ⟨g, 1, none⟩ (.int .u64 (lo : Int))).setCell ⟨g, 2, none⟩ (.int .i64 (s : Int))) (some g) := by
  refine ⟨?_, ?_⟩
  · unfold ScAt Sc.cells
    simp [World.setCell, Array.getElem?_modify, hg]
  · have G1 := only_setCell (only_refl w (some g)) (p := ⟨g, 0, none⟩) (.inl rfl) (.int .u64 (hi : Int))
    have G2 := only_setCell G1 (p := ⟨g, 1, none⟩) (.inl rfl) (.int .u64 (lo : Int))
    exact only_setCell G2 (p := ⟨g, 2, none⟩) (.inl rfl) (.int .i64 (s : Int))

set_option maxRecDepth 100000 in
set_option maxHeartbeats 1000000 in
theorem prescale_at (g k hi lo s : Nat) (e p l : Int) (v0 v1 v2 : Value) (w : World) (hg : w.heap[g]? = some (.cells #[v0, v1, v2] 222 (0, 0))) (hgt : g ≠ 9)
    (t0 : w.cell? ⟨9, k * 2, none⟩ = some (.int .u64 (hi : Int))) (t1 : w.cell? ⟨9, k * 2 + 1, none⟩ = some (.int .u64 (lo : Int)))
    (hkp : p = (k : Int) - 348) (hk : k < 696) (he0 : -3000 ≤ e) (he1 : e ≤ 3000) (hlb : -2000 ≤ l ∧ l ≤ 2000) (hs2 : -(e + l + 3) = (s : Int)) :
    Calls Tryz.prog 225 #[.pointer (some ⟨g, 0, none⟩), .int .i64 e, .int .i64 p, .int .i64 l] w fun r w' => r = .returned (.tuple #[]) ∧ ScAt w' g ⟨hi, lo, s⟩ ∧ w.grownBy w' (some g) := by
  have z0 : w.frozen? ⟨g, 0, none⟩ = false := by simp [World.frozen?, hg]
  have z1 : w.frozen? ⟨g, 1, none⟩ = false := by simp [World.frozen?, hg]
  have z2 : w.frozen? ⟨g, 2, none⟩ = false := by simp [World.frozen?, hg]
  have y0 : w.cell? ⟨g, 0, none⟩ = some v0 := by rw [cell_of_row w g 0 _ _ (0, 0) hg]; rfl
  have y1 : w.cell? ⟨g, 1, none⟩ = some v1 := by rw [cell_of_row w g 1 _ _ (0, 0) hg]; rfl
  have y2 : w.cell? ⟨g, 2, none⟩ = some v2 := by rw [cell_of_row w g 2 _ _ (0, 0) hg]; rfl
  have HS := Lib.hid (sc_set hi lo s hg)
  clear hg
  go_enter Tryz.func225, Tryz.ntmps225
  go_wp2
  go_end0
  exact ⟨rfl, HS.out.1, HS.out.2⟩

theorem prescale_any (g : Nat) (e p : Int) (v0 v1 v2 : Value) (w : World) (htab : PTab w) (hg : w.heap[g]? = some (.cells #[v0, v1, v2] 222 (0, 0))) (hgt : g ≠ 9)
    (h0 : -348 ≤ p) (h1 : p ≤ 347) (he0 : -3000 ≤ e) (he1 : e ≤ 3000) (hs : e + l2I p + 3 ≤ 0) :
    Calls Tryz.prog 225 #[.pointer (some ⟨g, 0, none⟩), .int .i64 e, .int .i64 p, .int .i64 (l2I p)] w fun r w' => r = .returned (.tuple #[]) ∧ ScAt w' g (mkSc e p) ∧ w.grownBy w' (some g) := by
  obtain ⟨t0, t1⟩ := htab _ _ (powRow_at h0 h1)
  exact prescale_at g (p + 348).toNat _ _ _ e p (l2I p) v0 v1 v2 w hg hgt t0 t1 (by omega) (by omega) he0 he1 (by unfold l2I; omega) (by omega)

end LM
end Go.Proofs.YtnpmfailpgbggaaGreatDoor

namespace Go.Proofs.YtnpmfailpgbggaaGreatDoor
open Go.RowKit
namespace LM
set_option linter.unusedVariables false

theorem or_lt64 {a b : Nat} (ha : a < 18446744073709551616) (hb : b < 18446744073709551616) : a ||| b < 18446744073709551616 := by
  have h : (18446744073709551616 : Nat) = 2 ^ 64 := by decide
  rw [h] at ha hb ⊢
  exact Nat.or_lt_two_pow ha hb
theorem uscaleN_lt (x : Nat) (c : Sc) (hx : x < 18446744073709551616) (hc : c.ok) : uscaleN x c < 18446744073709551616 := by
  have hH : x * c.hi / 18446744073709551616 < 18446744073709551616 :=
    Nat.div_lt_of_lt_mul (Nat.lt_of_le_of_lt (Nat.mul_le_mul_right c.hi (Nat.le_of_lt hx)) (Nat.mul_lt_mul_of_pos_left hc.1 (by decide)))
  unfold uscaleN
  dsimp only
  split
  · refine or_lt64 (Nat.lt_of_le_of_lt (Nat.div_le_self _ _) (Nat.mod_lt _ (by decide))) ?_
    split <;> decide
  · exact or_lt64 (Nat.lt_of_le_of_lt (Nat.div_le_self _ _) hH) (by decide)

theorem ScAt.drewN {w : World} {g : Nat} {c : Sc} (h : ScAt w g c) (n : Nat) : ScAt (w.drewN n) g c := h
theorem PTab.alloc {w : World} (h : PTab w) (hpt : 9 < w.heap.size) (o : Obj) : PTab (w.alloc o) := fun i x hx => by
  obtain ⟨a, b⟩ := h i x hx
  have hb := Below.heap_alloc w o 9 hpt
  exact ⟨(World.cell?_of_block (a := ⟨9, i * 2, none⟩) hb).trans a, (World.cell?_of_block (a := ⟨9, i * 2 + 1, none⟩) hb).trans b⟩
theorem mkSc_ok {e p : Int} (hp0 : -348 ≤ p) (hp1 : p ≤ 347) (hs0 : e + l2I p + 3 ≤ 0) (hs1 : -63 ≤ e + l2I p + 3) : (mkSc e p).ok := by
  obtain ⟨h1, h2⟩ := powRow_lt hp0 hp1
  exact ⟨h1, h2, by show (-(e + l2I p + 3)).toNat < 64; omega⟩
theorem roundN_lt (u : Nat) : roundN u < 4611686018427387904 := by unfold roundN; omega
end LM
end Go.Proofs.YtnpmfailpgbggaaGreatDoor

namespace Go.Proofs.YtnpmfailpgbggaaGreatDoor
open Go Go.Shelf Go.RowKit Go.Sort Go.Lib
namespace LM
set_option linter.unusedVariables false

abbrev enc8 : UInt8 → Value := fun b => Value.int .u8 (b.toNat : Int)
/-- a block begins with these bytes -/
def BufHas (w : World) (g : Nat) (ds : List UInt8) : Prop := ∀ j (h : j < ds.length), w.cell? ⟨g, j, none⟩ = some (.int .u8 (ds[j].toNat : Int))
end LM
end Go.Proofs.YtnpmfailpgbggaaGreatDoor

namespace Go.Proofs.YtnpmfailpgbggaaGreatDoor
open Go Go.Shelf Go.RowKit Go.Sort Go.Lib
namespace LM
set_option linter.unusedVariables false

/-- the digits stand in a block of their own -/
def Aside (w : World) (g : Nat) (ds : List UInt8) (v : Value) : Prop := ds = [] ∨ (g < w.heap.size ∧ v.ownBlock ≠ some g ∧ BufHas w g ds)
/-- a buffer of these bytes, from a block on, beside the digits -/
def OB (B : Nat) (W0 : World) (g : Nat) (ds : List UInt8) (v : Value) (bs : List UInt8) (w : World) : Prop :=
  w.ownsRow B 5 1 v bs.length (bs.map enc8) ∧ Below B W0 w ∧ B ≤ w.heap.size ∧ Aside w g ds v

theorem BufHas.grown {w w' : World} {g : Nat} {ds : List UInt8} {row : Option Nat} (h : BufHas w g ds) (hg : w.grownBy w' row) (hl : g < w.heap.size) (hr : some g ≠ row) : BufHas w' g ds := fun j hj => by
  rw [← h j hj]
  exact World.cell?_of_block (a := ⟨g, j, none⟩) (hg.block g hl hr)

theorem OB.alloc {B : Nat} {W0 : World} {g : Nat} {ds : List UInt8} {v : Value} {bs : List UInt8} {w : World} (h : OB B W0 g ds v bs w) (o : Obj) : OB B W0 g ds v bs (w.alloc o) := by
  obtain ⟨h1, h2, h3, h4⟩ := h
  refine ⟨h1.alloc o, h2.alloc h3 o, Nat.le_trans h3 (by simp), ?_⟩
  rcases h4 with h4 | ⟨a, b, c⟩
  · exact .inl h4
  · exact .inr ⟨by simp; omega, b, c.grown (World.grownBy_alloc w o none) a (by simp)⟩
theorem OB.drewN {B : Nat} {W0 : World} {g : Nat} {ds : List UInt8} {v : Value} {bs : List UInt8} {w : World} (h : OB B W0 g ds v bs w) (n : Nat) : OB B W0 g ds v bs (w.drewN n) := by
  obtain ⟨h1, h2, h3, h4⟩ := h
  exact ⟨h1, below_drewN h2 n, h3, h4⟩

section
variable {P : Program}
end

theorem OB.next {B : Nat} {W0 : World} {g : Nat} {ds : List UInt8} {v v' : Value} {bs nb : List UInt8} {w w' : World} (h : OB B W0 g ds v bs w) (ho : w'.ownsRow B 5 1 v' (bs.length + nb.length) (bs.map enc8 ++ nb.map enc8))
    (hg : w.grownBy w' v.ownBlock) (hv : v'.ownBlock = v.ownBlock ∨ v'.ownBlock = some w.heap.size) : OB B W0 g ds v' (bs ++ nb) w' := by
  obtain ⟨h1, h2, h3, h4⟩ := h
  refine ⟨by rw [List.map_append, List.length_append]; exact ho, h2.grown hg h3 (fun k hk => (h1.lt k hk).1), Nat.le_trans h3 hg.size, ?_⟩
  rcases h4 with h4 | ⟨a, b, c⟩
  · exact .inl h4
  · refine .inr ⟨Nat.lt_of_lt_of_le a hg.size, ?_, c.grown hg a (fun e => b e.symm)⟩
    rcases hv with hv | hv
    · rw [hv]; exact b
    · rw [hv]; intro e; injection e with e; omega

section
variable {P : Program}
end

end LM
end Go.Proofs.YtnpmfailpgbggaaGreatDoor
