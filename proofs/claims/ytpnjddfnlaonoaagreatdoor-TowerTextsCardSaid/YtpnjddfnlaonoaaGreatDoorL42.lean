/- Walks of the document: the text of any number. -/
import Derived.Test.YtpnjddfnlaonoaaGreatDoorL36
import Derived.Test.YtpnjddfnlaonoaaGreatDoorL41
import Derived.Test.YtpnjddfnlaonoaaGreatDoorL35
import Derived.Test.YtpnjddfnlaonoaaGreatDoorL47
import Derived.Test.YtpnjddfnlaonoaaGreatDoorL48
import Derived.Test.YtpnjddfnlaonoaaGreatDoorL08
import Derived.Test.YtpnjddfnlaonoaaGreatDoorL20
import Derived.Test.YtpnjddfnlaonoaaGreatDoorL46
import Derived.Test.YtpnjddfnlaonoaaGreatDoorL33
import Derived.Test.YtpnjddfnlaonoaaGreatDoorL19
import Derived.Test.YtpnjddfnlaonoaaGreatDoorL18
import Derived.Deep.RegionHeld3
import Derived.LoopTactic
import Derived.Deep.LoopGhost
import Derived.Test.YtpnjddfnlaonoaaGreatDoorL44
import Derived.Test.YtpnjddfnlaonoaaGreatDoorL34
import Derived.Lib.Atoi
import Derived.Lib.ItoaNum
namespace Go.Proofs.YtpnjddfnlaonoaaGreatDoor
open Go Go.Shelf Go.RowKit Go.Sort Go.Lib
namespace LM
set_option linter.unusedVariables false
attribute [local go_sem] run_store_flt

def TOutR (l : List UInt8) (ff : Nat) (w : World) (fl : Bool) (f : Nat) (s : Bool) (A : Option Addr) (n c : Nat) (er : Int) : Prop :=
  (OkText (signOf l).2 ∧ fl = false ∧ f = 0 ∧ ∃ z, POut l z er ∧ IntR w (.agg #[.bool s, .slice A n c]) z) ∨
  (¬ OkText (signOf l).2 ∧ (parV l ff).2 ≠ 0 ∧ fl = false ∧ f = 0 ∧ s = false ∧ A = none ∧ n = 0 ∧ c = 0 ∧ er = 13) ∨
  (¬ OkText (signOf l).2 ∧ (parV l ff).2 = 0 ∧ fl = true ∧ f = (parV l ff).1 ∧ s = false ∧ A = none ∧ n = 0 ∧ c = 0 ∧ er = 0)
def RetTR (w : World) (l : List UInt8) (ff : Nat) (e : Ending) (w' : World) : Prop :=
  ∃ fl f s A n c er, e = .returned (.tuple #[.agg #[.bool fl, .float .f64 f, .bool s, .slice A n c], .int .i64 er]) ∧ TOutR l ff w' fl f s A n c er ∧ Below w.heap.size w w'

set_option maxRecDepth 100000 in
set_option maxHeartbeats 2000000 in
theorem rtpflo_any (f : Nat) (w : World) :
    Calls Tryz.prog 66 #[.float .f64 f] w fun e w' => e = .returned (.agg #[.bool true, .float .f64 f, .bool false, .slice none 0 0]) ∧ Below w.heap.size w w' := by
  go_enter Tryz.func66, Tryz.ntmps66
  go_wp2_with (fail)
  refine bodyPost_ret (v := .agg #[.bool true, .float .f64 f, .bool false, .slice none 0 0]) (by simp [results, Tryz.results66, go_sem]) rfl ?_
  exact ⟨rfl, (Below.refl _ w).alloc (Nat.le_refl _) _⟩
set_option maxRecDepth 100000 in
set_option maxHeartbeats 4000000 in
theorem rtpout_ok (s : Bool) (A : Option Addr) (n c : Nat) (w : World) :
    Calls Tryz.prog 65 #[.agg #[.bool s, .slice A n c], .int .i64 0] w fun e w' => e = .returned (.tuple #[.agg #[.bool false, .float .f64 0, .bool s, .slice A n c], .int .i64 0]) ∧ Below w.heap.size w w' := by
  go_enter Tryz.func65, Tryz.ntmps65
  go_wp2_with (fail)
  refine bodyPost_ret (v := .tuple #[.agg #[.bool false, .float .f64 0, .bool s, .slice A n c], .int .i64 0]) (by simp [results, Tryz.results65, go_sem]) rfl ?_
  exact ⟨rfl, ((Below.refl _ w).alloc (Nat.le_refl _) _).alloc (by simp) _⟩
set_option maxRecDepth 100000 in
set_option maxHeartbeats 4000000 in
theorem rtpout_bad (s : Bool) (A : Option Addr) (n c : Nat) (w : World) :
    Calls Tryz.prog 65 #[.agg #[.bool s, .slice A n c], .int .i64 11] w fun e w' => e = .returned (.tuple #[.agg #[.bool false, .float .f64 0, .bool false, .slice none 0 0], .int .i64 11]) ∧ Below w.heap.size w w' := by
  go_enter Tryz.func65, Tryz.ntmps65
  go_wp2_with (fail)
  refine bodyPost_ret (v := .tuple #[.agg #[.bool false, .float .f64 0, .bool false, .slice none 0 0], .int .i64 11]) (by simp [results, Tryz.results65, go_sem]) rfl ?_
  exact ⟨rfl, ((Below.refl _ w).alloc (Nat.le_refl _) _).alloc (by simp) _⟩

set_option maxRecDepth 100000 in
set_option maxHeartbeats 4000000 in
theorem rtparse_any (s : ByteArray) (ff : Nat) (hs : s.size ≤ 1000) (hf : ReadsF s ff) (w : World) (hv : FV w) (hx : FX w) (hr : RngCell w) :
    Calls Tryz.prog 18 #[.string s] w (RetTR w s.data.toList ff) := by
  have EP := Lib.hid fun W (hW : Below w.heap.size w W) => rparse2_any s W (by omega)
  have FP := Lib.hid fun W (hW : Below w.heap.size w W) => rfparse_any s ff hs hf W (hv.below hW) (hx.below hW) (hr.below hW)
  have TW := Lib.hid rtpout_ok
  have TF := Lib.hid rtpflo_any
  have TE := Lib.hid rtpout_bad
  have hb0 : Below w.heap.size w (w.alloc (.cells #[.bool false, .float .f64 0, .bool false, .slice none 0 0] 38)) := (Below.refl _ w).alloc (Nat.le_refl _) _
  have Y0 := Nx.new w false 0 false none 0 0
  have HB0 := Lib.hid hb0
  have HY0 := Lib.hid Y0
  have PE := Lib.hid (parV_err s.data.toList ff)
  obtain ⟨l, hl⟩ : ∃ l, s.data.toList = l := ⟨_, rfl⟩
  rw [hl] at EP FP PE ⊢
  clear hv hx hr hf hb0 Y0 hl
  go_enter Tryz.func18, Tryz.ntmps18
  go_wp2_with (fail)
  refine (EP.out _ HB0.out).mono ?_
  rintro e w1 ⟨s1, A1, n1, c1, er, z, rfl, hiv, hpo, hb1⟩
  have HY1 := Lib.hid (HY0.out.below hb1)
  have HB1 := Lib.hid (bel_trans (B := w.heap.size) HB0.out hb1)
  have hba : Below w1.heap.size w1 (w1.alloc (.cells #[.bool s1, .slice A1 n1 c1] 36)) := (Below.refl _ w1).alloc (Nat.le_refl _) _
  have X1 := Bx.new w1 s1 A1 n1 c1
  obtain ⟨q0, q1, -, -, ql⟩ := X1.facts
  have HBA := Lib.hid hba
  have HVA := Lib.hid (hiv.keep hba)
  have HPO := Lib.hid hpo
  clear hb1 hiv hba X1
  rcases hpo with ⟨hno, rfl, rfl⟩ | ⟨hok, hbig, rfl, rfl⟩ | ⟨hok, hbig, hz, rfl⟩
  · go_wp2_with (fail)
    refine (FP.out _ (bel_trans (B := w.heap.size) HB1.out HBA.out)).mono ?_
    rintro e w2 ⟨rfl, hb2⟩
    have HB2 := Lib.hid (bel_trans (B := w.heap.size) (bel_trans (B := w.heap.size) HB1.out HBA.out) hb2)
    have HY2 := Lib.hid ((HY1.out.below HBA.out).below hb2)
    clear hb2
    rcases PE.out with h0 | h31
    · obtain ⟨p, hp⟩ : ∃ p, parV l ff = p := ⟨_, rfl⟩
      obtain ⟨pv, pe⟩ := p
      rw [hp] at h0 ⊢
      have h0 : pe = 0 := h0
      subst h0
      have HP := Lib.hid hp
      clear hp PE
      go_wp2_with (fail)
      refine (TF.out _ _).mono ?_
      rintro e w3 ⟨rfl, hb3⟩
      have HB3 := bel_trans (B := w.heap.size) HB2.out hb3
      have HY3 := HY2.out.below hb3
      obtain ⟨y0, y1, y2, y3, y4, y5, y6, y7, yl⟩ := HY3.facts
      obtain ⟨W, hW, ZR, hbW, -, -⟩ := stored_num HY3 HB3 (Nat.le_refl _) true pv false none 0 0
      obtain ⟨z0, z1, z2, z3, -, -, -, -, zl⟩ := ZR.facts
      have HW := Lib.hid hW
      have HBW := Lib.hid hbW
      clear hb3 HB3 HY3 hW hbW ZR
      go_wp2_with (fail)
      rw [HW.out]
      refine bodyPost_ret (v := .tuple #[.agg #[.bool true, .float .f64 pv, .bool false, .slice none 0 0], .int .i64 0]) (by simp [results, Tryz.results18, go_sem, z0, z1, z2, z3]) rfl ?_
      exact ⟨_, _, _, _, _, _, _, rfl, .inr (.inr ⟨hno, by rw [HP.out], rfl, by rw [HP.out], rfl, rfl, rfl, rfl, rfl⟩), HBW.out⟩
    · have HP := Lib.hid h31
      rw [h31]
      clear h31 PE
      obtain ⟨y0, y1, y2, y3, y4, y5, y6, y7, yl⟩ := HY2.out.facts
      obtain ⟨W, hW, ZR, hbW, -, -⟩ := stored_num HY2.out HB2.out (Nat.le_refl _) false 0 false none 0 0
      obtain ⟨z0, z1, z2, z3, -, -, -, -, zl⟩ := ZR.facts
      have HW := Lib.hid hW
      have HBW := Lib.hid hbW
      clear hW hbW ZR
      go_wp2_with (fail)
      rw [HW.out]
      refine bodyPost_ret (v := .tuple #[.agg #[.bool false, .float .f64 0, .bool false, .slice none 0 0], .int .i64 13]) (by simp [results, Tryz.results18, go_sem, z0, z1, z2, z3]) rfl ?_
      exact ⟨_, _, _, _, _, _, _, rfl, .inr (.inl ⟨hno, by rw [HP.out]; decide, rfl, rfl, rfl, rfl, rfl, rfl, rfl⟩), HBW.out⟩
  · go_wp2_with (fail)
    refine (TE.out _ _ _ _ _).mono ?_
    rintro e w2 ⟨rfl, hb2⟩
    have hB2 := bel_trans (B := w.heap.size) (bel_trans (B := w.heap.size) HB1.out HBA.out) hb2
    have hY2 := (HY1.out.below HBA.out).below hb2
    obtain ⟨y0, y1, y2, y3, y4, y5, y6, y7, yl⟩ := hY2.facts
    obtain ⟨W, hW, ZR, hbW, -, hvW⟩ := stored_num hY2 hB2 (Nat.le_refl _) false 0 false none 0 0
    obtain ⟨z0, z1, z2, z3, -, -, -, -, zl⟩ := ZR.facts
    have HW := Lib.hid hW
    have HBW := Lib.hid hbW
    have HVW := Lib.hid (hvW _ _ (HVA.out.keep hb2))
    clear hb2 hB2 hY2 hW hbW hvW ZR
    go_wp2_with (fail)
    rw [HW.out]
    refine bodyPost_ret (v := .tuple #[.agg #[.bool false, .float .f64 0, .bool false, .slice none 0 0], .int .i64 11]) (by simp [results, Tryz.results18, go_sem, z0, z1, z2, z3]) rfl ?_
    exact ⟨_, _, _, _, _, _, _, rfl, .inl ⟨hok, rfl, rfl, _, HPO.out, intR_nil _⟩, HBW.out⟩
  · go_wp2_with (fail)
    refine (TW.out _ _ _ _ _).mono ?_
    rintro e w2 ⟨rfl, hb2⟩
    have hB2 := bel_trans (B := w.heap.size) (bel_trans (B := w.heap.size) HB1.out HBA.out) hb2
    have hY2 := (HY1.out.below HBA.out).below hb2
    obtain ⟨y0, y1, y2, y3, y4, y5, y6, y7, yl⟩ := hY2.facts
    obtain ⟨W, hW, ZR, hbW, -, hvW⟩ := stored_num hY2 hB2 (Nat.le_refl _) false 0 s1 A1 n1 c1
    obtain ⟨z0, z1, z2, z3, -, -, -, -, zl⟩ := ZR.facts
    have HW := Lib.hid hW
    have HBW := Lib.hid hbW
    have HVW := Lib.hid (hvW _ _ (HVA.out.keep hb2))
    clear hb2 hB2 hY2 hW hbW hvW ZR
    go_wp2_with (fail)
    rw [HW.out]
    refine bodyPost_ret (v := .tuple #[.agg #[.bool false, .float .f64 0, .bool s1, .slice A1 n1 c1], .int .i64 0]) (by simp [results, Tryz.results18, go_sem, z0, z1, z2, z3]) rfl ?_
    exact ⟨_, _, _, _, _, _, _, rfl, .inl ⟨hok, rfl, rfl, _, HPO.out, HVW.out⟩, HBW.out⟩

end LM
end Go.Proofs.YtpnjddfnlaonoaaGreatDoor

namespace Go.Proofs.YtpnjddfnlaonoaaGreatDoor
open Go Go.RowKit
namespace LM
set_option linter.unusedVariables false

theorem sv_sg (s : Bool) (m : Nat) (e : Int) : sv s m e = sg s (m * 2 ^ (e + 1074).toNat) := by
  unfold sv sg; rfl

/-- the whole number below -/
def floorQ (s : Bool) (m P : Nat) : Nat := m / P + (s && decide (m % P ≠ 0)).toNat
theorem floor_ineq (s : Bool) (m P V : Nat) (hP : 0 < P) (hV : 0 < V) :
    sg s (floorQ s m P) * ((P * V : Nat) : Int) ≤ sg s (m * V) ∧ sg s (m * V) < (sg s (floorQ s m P) + 1) * ((P * V : Nat) : Int) := by
  have h1 : m = P * (m / P) + m % P := (Nat.div_add_mod m P).symm
  have h2 : m % P < P := Nat.mod_lt _ hP
  unfold floorQ
  generalize m / P = q at *
  generalize m % P = r at *
  have hVi : (0 : Int) < (V : Int) := by omega
  have key : sg s (q + (s && decide (r ≠ 0)).toNat) * (P : Int) ≤ sg s m ∧ sg s m < (sg s (q + (s && decide (r ≠ 0)).toNat) + 1) * (P : Int) := by
    have hmi : (m : Int) = (P : Int) * (q : Int) + (r : Int) := by rw [h1]; push_cast; rfl
    cases s
    · show ((q + (false && decide (r ≠ 0)).toNat : Nat) : Int) * (P : Int) ≤ (m : Int) ∧ (m : Int) < (((q + (false && decide (r ≠ 0)).toNat : Nat) : Int) + 1) * (P : Int)
      rw [show (false && decide (r ≠ 0)).toNat = 0 from rfl, Nat.add_zero, Int.add_mul, Int.mul_comm (q : Int), Int.one_mul, hmi]
      omega
    · show -((q + (true && decide (r ≠ 0)).toNat : Nat) : Int) * (P : Int) ≤ -(m : Int) ∧ -(m : Int) < (-((q + (true && decide (r ≠ 0)).toNat : Nat) : Int) + 1) * (P : Int)
      by_cases hr : r = 0
      · rw [show (true && decide (r ≠ 0)).toNat = 0 from by rw [Bool.true_and, decide_eq_false (by omega)]; rfl, Nat.add_zero, Int.add_mul, Int.neg_mul, Int.mul_comm (q : Int), Int.one_mul, hmi]
        omega
      · rw [show (true && decide (r ≠ 0)).toNat = 1 from by rw [Bool.true_and, decide_eq_true hr]; rfl, Int.add_mul, Int.neg_mul, Int.natCast_add, Int.add_mul, Int.mul_comm (q : Int), show ((1 : Nat) : Int) = 1 from rfl, Int.one_mul, hmi]
        omega
  have e1 : sg s (m * V) = sg s m * (V : Int) := by
    cases s
    · show ((m * V : Nat) : Int) = (m : Int) * (V : Int); push_cast; rfl
    · show -((m * V : Nat) : Int) = -(m : Int) * (V : Int); push_cast; rw [Int.neg_mul]
  rw [e1, Int.natCast_mul, ← Int.mul_assoc, ← Int.mul_assoc]
  exact ⟨Int.mul_le_mul_of_nonneg_right key.1 (by omega), Int.mul_lt_mul_of_pos_right key.2 hVi⟩

theorem cmp_floor (x z U F : Int) (hU : 0 < U) (h1 : z * U ≤ F) (h2 : F < (z + 1) * U) : cmpI (x * U) F = if x = z ∧ z * U < F then -1 else cmpI x z := by
  rcases Int.lt_trichotomy x z with h | h | h
  · have h3 : x * U < z * U := Int.mul_lt_mul_of_pos_right h hU
    rw [if_neg (by omega), cmpI_lt h, cmpI_lt (by omega)]
  · subst h
    by_cases h3 : x * U < F
    · rw [if_pos ⟨rfl, h3⟩, cmpI_lt h3]
    · rw [if_neg (by omega), cmpI_eq rfl, cmpI_eq (by omega)]
  · have h3 : (z + 1) * U ≤ x * U := Int.mul_le_mul_of_nonneg_right (by omega) (by omega)
    rw [if_neg (by omega), cmpI_gt h, cmpI_gt (by omega)]

theorem order_ne {s : Bool} {m : Nat} {e : Int} (h : CanF m e) : (FloatKind.f64.format.order (wordF s m e) (wordF s m e) != some .eq) = false := by
  have h1 := order_self (wordF s m e) (can_lt h)
  rw [if_neg (can_nan h)] at h1
  show (Ieee.double.order (wordF s m e) (wordF s m e) != some .eq) = false
  rw [h1]
  rfl

theorem toIntVal_of {b : Nat} {d : Ieee.Datum} {z : Int} (hd : FloatKind.f64.decode b = d) (ht : d.toInt .zero = some z) (h1 : -9223372036854775808 ≤ z) (h2 : z ≤ 9223372036854775807) : floatToIntVal .f64 b .i64 = some z := by
  unfold floatToIntVal
  rw [hd, ht]
  show (if IntKind.i64.min ≤ z ∧ z ≤ IntKind.i64.max then some z else none) = some z
  exact if_pos ⟨h1, h2⟩
theorem signed_zero (s : Bool) (q : Nat) : Ieee.signed s q 0 = sg s q := by
  unfold Ieee.signed sg
  rw [Nat.shiftLeft_zero]
theorem sg_bounds (s : Bool) (q : Nat) (hq : q < 9007199254740992) : -9223372036854775808 ≤ sg s q ∧ sg s q ≤ 9223372036854775807 := by
  cases s
  · show -9223372036854775808 ≤ (q : Int) ∧ (q : Int) ≤ 9223372036854775807; omega
  · show -9223372036854775808 ≤ -(q : Int) ∧ -(q : Int) ≤ 9223372036854775807; omega
theorem toInt_num (s : Bool) (m : Nat) (e : Int) : (Ieee.Datum.number s m e).toInt .zero = some (Ieee.signed s (Ieee.Toward.cut .zero s (m <<< e.toNat) (-e).toNat) 0) := rfl
theorem toInt_up {s : Bool} {m : Nat} {e : Int} (h : CanF m e) (he : e = 0) : floatToIntVal .f64 (wordF s m e) .i64 = some (sg s m) := by
  refine toIntVal_of (read_word h) ?_ (sg_bounds s m h.1).1 (sg_bounds s m h.1).2
  subst he
  rw [toInt_num, show (-(0 : Int)).toNat = 0 from rfl, cut_zero, show (0 : Int).toNat = 0 from rfl, Nat.shiftLeft_zero, signed_zero]
theorem toInt_down {s : Bool} {q k : Nat} (hq : q < 9007199254740992) (h : CanF (q * 2 ^ k) (-(k : Int))) : floatToIntVal .f64 (wordF s (q * 2 ^ k) (-(k : Int))) .i64 = some (sg s q) := by
  refine toIntVal_of (read_word h) ?_ (sg_bounds s q hq).1 (sg_bounds s q hq).2
  rw [toInt_num, show (-(-(k : Int))).toNat = k from by omega, show (-(k : Int)).toNat = 0 from by omega, Nat.shiftLeft_zero, cut_eq, Nat.mul_div_cancel _ (Nat.two_pow_pos _), signed_zero]
  rfl

/-- the exact number of a floating one without digits behind the point -/
theorem floexact_up {s : Bool} {m : Nat} {e : Int} (h : CanF m e) (he : 0 ≤ e) (w : World) : Calls Tryz.prog 39 #[.float .f64 (wordF s m e)] w (RetE w (sg s m * ((2 ^ e.toNat : Nat) : Int))) := by
  have hn : 4503599627370496 ≤ m := by
    rcases h.2.2.2 with h1 | h1
    · exact h1
    · omega
  have h3 := h.2.2.1
  refine floexact_raw (wordF s m e) (wordF s m (e + -e)) (e + 53) (sg s m) e.toNat w (can_lt h) (can_inf h) (fun W => ?_) (order_ne h) (fun W => (frexp_can h hn W).mono fun r w' ⟨⟨y, h1⟩, h2⟩ => ⟨⟨y, h1⟩, h2⟩) (by omega) (by omega) (by omega) (fun W => ?_) ?_ ?_
  · have ht := trunc_can (s := s) h W
    have hi := integral_up .zero (s := s) h he
    rw [read_word h] at hi
    rw [hi] at ht
    exact ht.mono fun r w' ⟨h1, h2⟩ => ⟨h1, h2⟩
  · rw [show ((e.toNat : Nat) : Int) = e from by omega]
    exact ldexp_can (s := s) h hn (-e) (by omega) (by omega) W
  · have hz : e + -e = 0 := by omega
    exact toInt_up ⟨h.1, by omega, by omega, .inl hn⟩ hz
  · have := h.1
    unfold sg
    split <;> omega
theorem floexact_down (s : Bool) (q k : Nat) (hk : k ≤ 52) (hq : q < 9007199254740992) (h : CanF (q * 2 ^ k) (-(k : Int))) (hn : 4503599627370496 ≤ q * 2 ^ k) (he : Ieee.double.nearest s q 0 = wordF s (q * 2 ^ k) (-(k : Int))) (w : World) :
    Calls Tryz.prog 39 #[.float .f64 (wordF s (q * 2 ^ k) (-(k : Int)))] w (RetE w (sg s q * ((2 ^ 0 : Nat) : Int))) := by
  refine floexact_raw _ (wordF s (q * 2 ^ k) (-(k : Int) + 0)) (-(k : Int) + 53) (sg s q) 0 w (can_lt h) (can_inf h) (fun W => ?_) (order_ne h) (fun W => (frexp_can h hn W).mono fun r w' ⟨⟨y, h1⟩, h2⟩ => ⟨⟨y, h1⟩, h2⟩) (by omega) (by omega) (by decide) (fun W => ?_) ?_ ?_
  · rcases Nat.eq_zero_or_pos k with hk0 | hk0
    · have ht := trunc_can (s := s) h W
      have hi := integral_up .zero (s := s) h (by omega)
      rw [read_word h] at hi
      rw [hi] at ht
      exact ht.mono fun r w' ⟨h1, h2⟩ => ⟨h1, h2⟩
    · have ht := trunc_can (s := s) h W
      have hi := integral_down .zero (s := s) h (by omega)
      rw [read_word h, show (-(-(k : Int))).toNat = k from by omega, Nat.mul_div_cancel _ (Nat.two_pow_pos _)] at hi
      rw [hi] at ht
      simp only [moreB, Bool.toNat_false, Nat.add_zero] at ht
      rw [he] at ht
      exact ht.mono fun r w' ⟨h1, h2⟩ => ⟨h1, h2⟩
  · exact ldexp_can (s := s) h hn 0 (by omega) (by omega) W
  · rw [Int.add_zero]
    exact toInt_down hq h
  · unfold sg
    split <;> omega
theorem floexact_zero (s : Bool) (w : World) : Calls Tryz.prog 39 #[.float .f64 (wordF s 0 (-1074))] w (RetE w (0 * ((2 ^ 0 : Nat) : Int))) := by
  have hc : CanF 0 (-1074) := by unfold CanF; decide
  refine floexact_raw _ (wordF s 0 (-1074)) 0 0 0 w (can_lt hc) (can_inf hc) (fun W => ?_) (order_ne hc) (fun W => frexp_zero s W) (by omega) (by decide) (by decide) (fun W => ldexp_zero s _ W) ?_ (by decide)
  · have ht := trunc_can (s := s) hc W
    have hi := integral_down .zero (s := s) hc (by decide)
    rw [read_word hc] at hi
    rw [hi, Nat.zero_div, Nat.zero_mod] at ht
    simp only [moreB, Bool.toNat_false, Nat.add_zero] at ht
    rw [nearest_zero] at ht
    exact ht.mono fun r w' ⟨h1, h2⟩ => ⟨h1, h2⟩
  · cases s
    · decide
    · decide

end LM
end Go.Proofs.YtpnjddfnlaonoaaGreatDoor

namespace Go.Proofs.YtpnjddfnlaonoaaGreatDoor
open Go Go.RowKit
namespace LM
set_option linter.unusedVariables false

set_option maxRecDepth 100000 in
set_option maxHeartbeats 2000000 in
theorem flocmp_raw (x z : Int) (b F : Nat) (t : Bool) (v : Value) (w : World) (hv : IntV w v x) (nx : ¬ BigI x) (nz : ¬ BigI z) (hb : b < 18446744073709551616) (hn : ¬ nanW b)
    (hp : (FloatKind.f64.format.order b 9218868437227405311 == some .gt) = false) (hm : (FloatKind.f64.format.order (Op.negFloat .f64 b) 9218868437227405311 == some .gt) = false)
    (hF : ∀ W, Calls Tryz.prog 171 #[.float .f64 b] W fun e w' => e = .returned (.float .f64 F) ∧ W = w')
    (hE : ∀ W, Calls Tryz.prog 39 #[.float .f64 F] W (RetE W z)) (ht : (FloatKind.f64.format.order F b == some .lt) = t) :
    Calls Tryz.prog 109 #[v, .float .f64 b] w fun e w' => e = .returned (.tuple #[.int .i64 (if x = z ∧ t = true then -1 else cmpI x z), .bool true]) ∧ Below w.heap.size w w' := by
  obtain ⟨A, n, c, rfl, hnc, hcm⟩ := hv.open
  obtain ⟨res, hres⟩ : ∃ res : Int, (if x = z ∧ t = true then -1 else cmpI x z) = res := ⟨_, rfl⟩
  rw [hres]
  have HR := Lib.hid hres
  clear hres
  have N1 := Lib.hid fun W => isNaN_any b W hb
  rw [show decide (nanW b) = false from decide_eq_false hn] at N1
  have P1 := Lib.hid fun W => isInf_pos b W false hp
  have P2 := Lib.hid fun W => isInf_neg b W false hm
  have FL := Lib.hid hF
  have EX := Lib.hid hE
  have NX := Lib.hid nx
  have NZ := Lib.hid nz
  obtain ⟨s, hs⟩ : ∃ s, decide (x < 0) = s := ⟨_, rfl⟩
  rw [hs] at hv ⊢
  have X0 := Lib.hid (Bx.new w s A n c)
  have V0 := Lib.hid (hv.alloc (.cells #[.bool s, .slice A n c] 36))
  have HB0 : Hid (Below w.heap.size w (w.alloc (.cells #[.bool s, .slice A n c] 36))) := Lib.hid ((Below.refl _ w).alloc (Nat.le_refl _) _)
  clear hn hp hm hF hE nx nz hv hs
  go_enter Tryz.func109, Tryz.ntmps109
  go_wp2_with (fail)
  refine (N1.out _).mono ?_
  rintro e w' ⟨rfl, rfl⟩
  go_wp2_with (fail)
  refine (P1.out _).mono ?_
  rintro e w' ⟨rfl, rfl⟩
  go_wp2_with (fail)
  refine (P2.out _).mono ?_
  rintro e w' ⟨rfl, rfl⟩
  go_wp2_with (fail)
  refine (FL.out _).mono ?_
  rintro e w' ⟨rfl, rfl⟩
  go_wp2_with (fail)
  refine (EX.out _).mono ?_
  intro e w1 hr
  obtain ⟨s1, A1, n1, c1, er, zr, rfl, hv1, ho, hb1⟩ := hr.out
  obtain ⟨rfl, rfl⟩ : zr = z ∧ er = 0 := by
    rcases ho with ⟨h, _⟩ | ⟨_, h1, h2⟩
    · exact absurd h NZ.out
    · first | exact ⟨h1, h2⟩ | exact ⟨h2, h1⟩
  have X1 := Lib.hid ((X0.out.below hb1).alloc (.cells #[.bool s1, .slice A1 n1 c1] 36))
  have V1 := Lib.hid ((V0.out.keep hb1).alloc (.cells #[.bool s1, .slice A1 n1 c1] 36))
  have U1 := Lib.hid (hv1.alloc (.cells #[.bool s1, .slice A1 n1 c1] 36))
  have hbk := bel_trans (B := w.heap.size) HB0.out hb1
  have HB1 := Lib.hid (hbk.alloc hbk.size (.cells #[.bool s1, .slice A1 n1 c1] 36))
  have hc1 := ecmp_int V1.out U1.out NX.out NZ.out
  have hz := cmpI_zero (x := x) (y := zr)
  have hres2 := HR.out
  obtain ⟨o, hoo⟩ : ∃ o, cmpI x zr = o := ⟨_, rfl⟩
  rw [hoo] at hc1 hz hres2
  have C1 := Lib.hid hc1
  have HR2 := Lib.hid hres2
  clear hoo HR hc1 hres2
  obtain ⟨q0, q1, -, -, ql⟩ := (X0.out.below hb1).facts
  clear hr ho hv1 hb1 hbk
  by_cases hxz : x = zr
  · rw [decide_eq_true hxz] at hz
    have HXZ := Lib.hid hxz
    clear hxz
    cases t
    · go_wp2_with (fail)
      refine C1.out.mono ?_
      rintro e w2 ⟨rfl, hb2⟩
      have HB2 := Lib.hid (bel_trans (B := w.heap.size) HB1.out hb2)
      clear hb2 q0 q1 ql
      go_wp2_with (fail)
      go_ret2
      have hr3 := HR2.out
      rw [if_neg (fun h => by cases h.2)] at hr3
      subst hr3
      exact ⟨rfl, HB2.out⟩
    · go_wp2_with (fail)
      refine C1.out.mono ?_
      rintro e w2 ⟨rfl, hb2⟩
      have HB2 := Lib.hid (bel_trans (B := w.heap.size) HB1.out hb2)
      clear hb2 q0 q1 ql
      go_wp2_with (fail)
      go_ret2
      have hr3 := HR2.out
      rw [if_pos ⟨HXZ.out, by first | rfl | trivial⟩] at hr3
      subst hr3
      exact ⟨rfl, HB2.out⟩
  · rw [decide_eq_false hxz] at hz
    have HXZ := Lib.hid hxz
    clear hxz
    go_wp2_with (fail)
    refine C1.out.mono ?_
    rintro e w2 ⟨rfl, hb2⟩
    have HB2 := Lib.hid (bel_trans (B := w.heap.size) HB1.out hb2)
    clear hb2 q0 q1 ql
    go_wp2_with (fail)
    go_ret2
    have hr3 := HR2.out
    rw [if_neg (fun h => HXZ.out h.1)] at hr3
    subst hr3
    exact ⟨rfl, HB2.out⟩

/-- one, in units of the least place -/
def unit : Int := sv false 1 0
theorem unit_pow : unit = ((2 ^ ((0 : Int) + 1074).toNat : Nat) : Int) := by
  unfold unit
  rw [sv_false, Nat.one_mul]
theorem unit_pos : 0 < unit := by
  rw [unit_pow]
  have : 0 < 2 ^ ((0 : Int) + 1074).toNat := Nat.two_pow_pos _
  omega
theorem unit_split (d : Nat) (hd : d ≤ 1074) : unit = ((2 ^ d * 2 ^ (-(d : Int) + 1074).toNat : Nat) : Int) := by
  rw [unit_pow, ← Nat.pow_add]
  congr 2
  omega
theorem sg_mul_nat (s : Bool) (a b : Nat) : sg s (a * b) = sg s a * (b : Int) := by
  cases s
  · show ((a * b : Nat) : Int) = (a : Int) * (b : Int); push_cast; rfl
  · show -((a * b : Nat) : Int) = -(a : Int) * (b : Int); push_cast; rw [Int.neg_mul]
theorem sv_up (s : Bool) (m : Nat) (e : Int) (he : 0 ≤ e) : sg s m * ((2 ^ e.toNat : Nat) : Int) * unit = sv s m e := by
  rw [sv_sg, unit_pow, show (e + 1074).toNat = e.toNat + ((0 : Int) + 1074).toNat from by omega, Nat.pow_add, ← Nat.mul_assoc, sg_mul_nat, sg_mul_nat]
theorem sv_whole (s : Bool) (q k : Nat) (hk : k ≤ 1074) : sv s (q * 2 ^ k) (-(k : Int)) = sg s q * unit := by
  rw [sv_sg, Nat.mul_assoc, sg_mul_nat, unit_split k hk]

theorem lt_num {s t : Bool} {m n : Nat} {e j : Int} (h : CanF m e) (k : CanF n j) : (FloatKind.f64.format.order (wordF s m e) (wordF t n j) == some .lt) = decide (sv s m e < sv t n j) := by
  rw [d_fmt, order_num h k, cmp_lt]

theorem flocmp_can {s : Bool} {m : Nat} {e : Int} (h : CanF m e) (x : Int) (v : Value) (w : World) (hv : IntV w v x) (nx : ¬ BigI x) :
    Calls Tryz.prog 109 #[v, .float .f64 (wordF s m e)] w fun r w' => r = .returned (.tuple #[.int .i64 (cmpI (x * unit) (sv s m e)), .bool true]) ∧ Below w.heap.size w w' := by
  by_cases he : 0 ≤ e
  · have hm53 : (sg s m).natAbs < 9007199254740992 := by rw [sg_abs]; exact h.1
    have hF := fun W => floor_can (s := s) h W
    have hi := integral_up .down (s := s) h he
    rw [read_word h] at hi
    rw [hi] at hF
    have e1 := sv_up s m e he
    have hc := cmp_floor x (sg s m * ((2 ^ e.toNat : Nat) : Int)) unit (sv s m e) unit_pos (by omega) (by rw [Int.add_mul]; have := unit_pos; omega)
    rw [if_neg (fun h2 => by have := h2.2; omega)] at hc
    rw [hc]
    have hr := flocmp_raw x _ (wordF s m e) (wordF s m e) false v w hv nx (prod_not_big hm53 (k := e.toNat) (by have := h.2.2.1; omega)) (can_lt h) (can_nan h) (can_pinf h) (can_minf h) hF (fun W => floexact_up h he W) (by rw [lt_num h h]; exact decide_eq_false (by omega))
    rw [if_neg (fun h2 => by cases h2.2)] at hr
    exact hr
  · obtain ⟨d, hd⟩ : ∃ d, (-e).toNat = d := ⟨_, rfl⟩
    have hed : e = -(d : Int) := by omega
    have hd1 : 0 < d := by omega
    have hd2 : d ≤ 1074 := by have := h.2.1; omega
    obtain ⟨Q, hQ⟩ : ∃ Q, floorQ s m (2 ^ d) = Q := ⟨_, rfl⟩
    have hq1 := half_div m d h.1 hd1
    have hQl : Q < 9007199254740992 := by
      rw [← hQ]
      unfold floorQ
      have : (s && decide (m % 2 ^ d ≠ 0)).toNat ≤ 1 := Bool.toNat_le _
      omega
    have hF := fun W => floor_can (s := s) h W
    have hi := integral_down .down (s := s) h (by omega)
    rw [read_word h, hd] at hi
    have hmb : (moreB Ieee.Toward.down s (m / 2 ^ d) (m % 2 ^ d) (2 ^ d)) = (s && decide (m % 2 ^ d ≠ 0)) := by
      have hb1 : (m % 2 ^ d != 0) = decide (m % 2 ^ d ≠ 0) := by rw [Bool.eq_iff_iff, bne_iff_ne, decide_eq_true_iff]
      rw [← hb1]
      rfl
    rw [hmb, show m / 2 ^ d + (s && decide (m % 2 ^ d ≠ 0)).toNat = Q from hQ] at hi
    rw [hi] at hF
    have hV : 0 < 2 ^ (-(d : Int) + 1074).toNat := Nat.two_pow_pos _
    have hfl := floor_ineq s m (2 ^ d) (2 ^ (-(d : Int) + 1074).toNat) (Nat.two_pow_pos _) hV
    rw [hQ, ← unit_split d hd2] at hfl
    have hsv : sv s m e = sg s (m * 2 ^ (-(d : Int) + 1074).toNat) := by rw [sv_sg, hed]
    rw [← hsv] at hfl
    have hc := cmp_floor x (sg s Q) unit (sv s m e) unit_pos hfl.1 hfl.2
    rw [hc]
    have hone : ((2 ^ 0 : Nat) : Int) = 1 := rfl
    have fin : ∀ F, (∀ W, Calls Tryz.prog 171 #[.float .f64 (wordF s m e)] W fun r w' => r = .returned (.float .f64 F) ∧ W = w') → (∀ W, Calls Tryz.prog 39 #[.float .f64 F] W (RetE W (sg s Q))) →
        (FloatKind.f64.format.order F (wordF s m e) == some .lt) = decide (sg s Q * unit < sv s m e) → Calls Tryz.prog 109 #[v, .float .f64 (wordF s m e)] w fun r w' => r = .returned (.tuple #[.int .i64 (if x = sg s Q ∧ sg s Q * unit < sv s m e then -1 else cmpI x (sg s Q)), .bool true]) ∧ Below w.heap.size w w' := by
      intro F f1 f2 f3
      have hnb : ¬ BigI (sg s Q) := small_not_big (by rw [sg_abs]; omega)
      have hr := flocmp_raw x _ (wordF s m e) F _ v w hv nx hnb (can_lt h) (can_nan h) (can_pinf h) (can_minf h) f1 f2 f3
      simp only [decide_eq_true_eq] at hr
      exact hr
    rcases Nat.eq_zero_or_pos Q with hq0 | hq0
    · subst hq0
      rw [nearest_zero] at hF
      have hc0 : CanF 0 (-1074) := by unfold CanF; decide
      have hz0 : sg s 0 = 0 := sg_zero s
      refine fin _ hF (fun W => ?_) ?_
      · have hx := floexact_zero s W
        rw [hone, Int.mul_one] at hx
        rw [hz0]
        exact hx
      · rw [lt_num hc0 h, hz0, Int.zero_mul, (sv_zero s 0 (-1074)).2 rfl]
    · obtain ⟨k, hk, hck, hnk, hek⟩ := whole_norm s Q hq0 hQl
      rw [hek] at hF
      refine fin _ hF (fun W => ?_) ?_
      · have hx := floexact_down s Q k hk hQl hck hnk hek W
        rw [hone, Int.mul_one] at hx
        exact hx
      · rw [lt_num hck h, sv_whole s Q k (by omega)]

end LM
end Go.Proofs.YtpnjddfnlaonoaaGreatDoor

namespace Go.Proofs.YtpnjddfnlaonoaaGreatDoor
open Go Go.RowKit
namespace LM
set_option linter.unusedVariables false
attribute [local go_sem] run_store_flt

set_option maxRecDepth 100000 in
set_option maxHeartbeats 1000000 in
theorem ttext_f (f : Nat) (t : ByteArray) (s : Bool) (A : Option Addr) (n c : Nat) (w : World)
    (hT : ∀ W, Below w.heap.size w W → Calls Tryz.prog 12 #[.float .f64 f] W fun e w' => e = .returned (.string t) ∧ Below W.heap.size W w') :
    Calls Tryz.prog 19 #[numA true f s A n c] w fun e w' => e = .returned (.string t) ∧ Below w.heap.size w w' := by
  have Y0 := Nx.new w true f s A n c
  have hb0 : Below w.heap.size w (w.alloc (numO true f s A n c)) := (Below.refl _ w).alloc (Nat.le_refl _) _
  obtain ⟨y0, y1, y2, y3, -, -, -, -, yl⟩ := Y0.facts
  have HB0 := Lib.hid hb0
  have HT := Lib.hid (hT _ hb0)
  clear hb0 Y0 hT
  go_enter Tryz.func19, Tryz.ntmps19
  go_wp2_with (fail)
  refine HT.out.mono ?_
  rintro e w1 ⟨rfl, hb1⟩
  go_wp2_with (fail)
  go_ret
  exact ⟨rfl, bel_trans (B := w.heap.size) HB0.out hb1⟩

set_option maxRecDepth 100000 in
set_option maxHeartbeats 1000000 in
theorem ttext_i (f : Nat) (x : Int) (s : Bool) (A : Option Addr) (n c : Nat) (w : World) (hv : IntV w (.agg #[.bool s, .slice A n c]) x) (nx : ¬ BigI x) (htab : Lib.TabIs Tryz.prog w "internal/strconv.uint64pow10" .u64 Lib.pow10Tab) :
    Calls Tryz.prog 19 #[numA false f s A n c] w fun e w' => e = .returned (.string ⟨(decI x).toArray⟩) ∧ Below w.heap.size w w' := by
  have Y0 := Nx.new w false f s A n c
  have hb0 : Below w.heap.size w (w.alloc (numO false f s A n c)) := (Below.refl _ w).alloc (Nat.le_refl _) _
  obtain ⟨y0, y1, y2, y3, -, -, -, -, yl⟩ := Y0.facts
  have HB0 := Lib.hid hb0
  have HT := Lib.hid (etext_int (hv.alloc (numO false f s A n c)) nx (tab_below htab hb0))
  clear hb0 Y0 hv htab
  go_enter Tryz.func19, Tryz.ntmps19
  go_wp2_with (fail)
  refine HT.out.mono ?_
  rintro e w1 ⟨rfl, hb1⟩
  go_wp2_with (fail)
  go_ret
  exact ⟨rfl, bel_trans (B := w.heap.size) HB0.out hb1⟩

theorem two_num (w : World) (fl : Bool) (f : Nat) (s : Bool) (A : Option Addr) (n c : Nat) (fl' : Bool) (f' : Nat) (s' : Bool) (A' : Option Addr) (n' c' : Nat) :
    ∃ W, (w.alloc (numO fl f s A n c)).alloc (numO fl' f' s' A' n' c') = W ∧ Below w.heap.size w W ∧ Obs W [(w.heap.size + 1, numO fl' f' s' A' n' c'), (w.heap.size, numO fl f s A n c)] := by
  refine ⟨_, rfl, ((Below.refl _ w).alloc (Nat.le_refl _) _).alloc (by simp) _, ?_⟩
  have h := (Obs.nil.new (w := w) (numO fl f s A n c)).new (numO fl' f' s' A' n' c')
  simp only [World.size_alloc] at h
  exact h

set_option maxRecDepth 100000 in
set_option maxHeartbeats 1000000 in
/-- an exact one and a floating one -/
theorem tcmp_if (f fb : Nat) (k : Int) (ok : Bool) (s : Bool) (A : Option Addr) (n c : Nat) (s' : Bool) (A' : Option Addr) (n' c' : Nat) (w : World)
    (hC : ∀ W, Below w.heap.size w W → Calls Tryz.prog 109 #[.agg #[.bool s, .slice A n c], .float .f64 fb] W fun e w' => e = .returned (.tuple #[.int .i64 k, .bool ok]) ∧ Below W.heap.size W w') :
    Calls Tryz.prog 59 #[numA false f s A n c, numA true fb s' A' n' c'] w fun e w' => e = .returned (.tuple #[.int .i64 k, .bool ok]) ∧ Below w.heap.size w w' := by
  obtain ⟨W0, hW0, hb0, hO⟩ := two_num w false f s A n c true fb s' A' n' c'
  obtain ⟨p0, p1, p2, p3, -, -, -, -, pl⟩ := hO.nx0.facts
  obtain ⟨q0, q1, q2, q3, -, -, -, -, ql⟩ := hO.tl.nx0.facts
  have HB0 := Lib.hid hb0
  have C1 := Lib.hid (hC W0 hb0)
  have HW0 := Lib.hid hW0
  subst hW0
  clear hb0 hO hC
  go_enter Tryz.func59, Tryz.ntmps59
  go_wp2_with (fail)
  refine C1.out.mono ?_
  rintro e w1 ⟨rfl, hb1⟩
  go_wp2_with (fail)
  go_ret2
  exact ⟨rfl, bel_trans (B := w.heap.size) HB0.out hb1⟩

end LM
end Go.Proofs.YtpnjddfnlaonoaaGreatDoor

namespace Go.Proofs.YtpnjddfnlaonoaaGreatDoor
open Go Go.RowKit
namespace LM
set_option linter.unusedVariables false
attribute [local go_sem] run_store_flt

theorem cmp_2p53 : cmpI (9007199254740993 * unit) (sv false 4503599627370496 1) = 1 := by
  have h := sv_up false 4503599627370496 1 (by decide)
  rw [← h, show sg false 4503599627370496 * ((2 ^ (1 : Int).toNat : Nat) : Int) = 9007199254740992 from by decide]
  have hp := unit_pos
  exact cmpI_gt (by omega)

set_option maxRecDepth 100000 in
set_option maxHeartbeats 8000000 in
theorem talive_any (w : World) (hv : TV w) :
    Calls Tryz.prog 15 #[] w fun e w' => e = .returned (.bool true) ∧ Below w.heap.size w w' := by
  have HV := Lib.hid hv
  have I1 := Lib.hid fun z W (h1 : -9223372036854775808 ≤ z) (h2 : z ≤ 9223372036854775807) => tint_any z h1 h2 W
  have F1 := Lib.hid tflo_any
  have o1 : floatOfInt .f64 ((1 : Nat) : Int) = 4607182418800017408 := by decide
  have o2 : floatOfInt .f64 ((2 : Nat) : Int) = 4611686018427387904 := by decide
  have a1 : floatBits .add .f64 4607182418800017408 4602678819172646912 = some 4609434218613702656 := by decide
  have a2 : floatBits .quo .f64 4607182418800017408 4611686018427387904 = some 4602678819172646912 := by decide
  have OF1 : Hid (∀ v W, IntV W v 1 → Calls Tryz.prog 41 #[v] W fun e w' => e = .returned (.float .f64 4607182418800017408) ∧ Below W.heap.size W w') := Lib.hid fun v W h => by
    have h2 := floof_small 1 (by decide) v W h
    rw [o1] at h2
    exact h2
  have OF2 : Hid (∀ v W, IntV W v 2 → Calls Tryz.prog 41 #[v] W fun e w' => e = .returned (.float .f64 4611686018427387904) ∧ Below W.heap.size W w') := Lib.hid fun v W h => by
    have h2 := floof_small 2 (by decide) v W h
    rw [o2] at h2
    exact h2
  have NB : ∀ z : Int, z.natAbs < 18446744073709551616 * 4294967296 → ¬ BigI z := fun z h => small_not_big h
  have AD := Lib.hid fun s A n c W (h : IntV W (.agg #[.bool s, .slice A n c]) 1) => tadd_if 0 4607182418800017408 4602678819172646912 4609434218613702656 s A n c false none 0 0 W (fun W' hb => OF1.out _ W' (h.keep hb)) a1
  have D1 := Lib.hid fun s A n c s' A' n' c' W (h : IntV W (.agg #[.bool s, .slice A n c]) 6) (h' : IntV W (.agg #[.bool s', .slice A' n' c']) 3) => tdiv_whole 0 0 s A n c s' A' n' c' 6 3 W h h' (NB _ (by decide)) (NB _ (by decide)) (by decide) (by decide)
  have D2 := Lib.hid fun s A n c s' A' n' c' W (h : IntV W (.agg #[.bool s, .slice A n c]) 1) (h' : IntV W (.agg #[.bool s', .slice A' n' c']) 2) => tdiv_flo 0 0 4607182418800017408 4611686018427387904 4602678819172646912 s A n c s' A' n' c' 1 2 W h h' (NB _ (by decide)) (NB _ (by decide)) (by decide) (by decide)
    (fun W' hb => OF1.out _ W' (h.keep hb)) (fun W' hb => OF2.out _ W' (h'.keep hb)) a2
  have C1 := Lib.hid fun s A n c W (h : IntV W (.agg #[.bool s, .slice A n c]) 9007199254740993) => tcmp_if 0 4845873199050653696 1 true s A n c false none 0 0 W fun W' hb => by
    have h2 := flocmp_can (s := false) (m := 4503599627370496) (e := 1) (by unfold CanF; decide) 9007199254740993 _ W' (h.keep hb) (NB _ (by decide))
    rw [cmp_2p53, show wordF false 4503599627370496 1 = 4845873199050653696 from by decide] at h2
    exact h2
  have T1 := Lib.hid fun s A n c W (h : TV W) => ttext_f 4609434218613702656 ⟨#[49, 46, 53]⟩ s A n c W fun W' hb => text_1h W' (h.below hb)
  have T2 := Lib.hid fun s A n c W (h : TV W) (hx : IntV W (.agg #[.bool s, .slice A n c]) (quoI 6 3)) => ttext_i 0 (quoI 6 3) s A n c W hx (NB _ (by decide)) h.tab
  have T3 := Lib.hid fun s A n c W (h : TV W) => ttext_f 4602678819172646912 ⟨#[48, 46, 53]⟩ s A n c W fun W' hb => text_h W' (h.below hb)
  rw [show decI (quoI 6 3) = [50] from by rw [show quoI 6 3 = 2 from by decide]; unfold decI; rw [if_neg (by decide), show (2 : Int).natAbs = 2 from rfl, dec_small (by decide)]; rfl] at T2
  have c1 : ((⟨#[49, 46, 53]⟩ : ByteArray).toList == [49, 46, 53]) = true := by rw [Go.ByteArray.toList_eq]; rfl
  have c2 : ((⟨#[50]⟩ : ByteArray).toList == [50]) = true := by rw [Go.ByteArray.toList_eq]; rfl
  have c3 : ((⟨#[48, 46, 53]⟩ : ByteArray).toList == [48, 46, 53]) = true := by rw [Go.ByteArray.toList_eq]; rfl
  clear hv o1 o2 a1 a2 NB
  go_enter Tryz.func15, Tryz.ntmps15
  go_wp2_with (fail)
  refine (I1.out 1 _ (by decide) (by decide)).mono ?_
  rintro e w1 ⟨s1, A1, n1, k1, rfl, hv1, hb1⟩
  have V1 := Lib.hid hv1
  have HB1 := Lib.hid hb1
  clear hv1 hb1
  go_wp2_with (fail)
  refine (F1.out _ _).mono ?_
  rintro e w2 ⟨rfl, hb2⟩
  have V2 := Lib.hid (V1.out.keep hb2)
  have HB2 := Lib.hid (bel_trans (B := w.heap.size) HB1.out hb2)
  clear hb2
  go_wp2_with (fail)
  refine (AD.out _ _ _ _ _ V2.out).mono ?_
  rintro e w3 ⟨rfl, hb3⟩
  have hbk := bel_trans (B := w.heap.size) HB2.out hb3
  have HB3 := Lib.hid (hbk.alloc hbk.size (numO true 4609434218613702656 false none 0 0))
  have O3 := Lib.hid (Obs.nil.new (w := w3) (numO true 4609434218613702656 false none 0 0))
  clear hb3 hbk
  go_wp2_with (fail)
  refine (I1.out 6 _ (by decide) (by decide)).mono ?_
  rintro e w4 ⟨s4, A4, n4, k4, rfl, hv4, hb4⟩
  have V4 := Lib.hid hv4
  have HB4 := Lib.hid (bel_trans (B := w.heap.size) HB3.out hb4)
  have O4 := Lib.hid (O3.out.below hb4)
  clear hv4 hb4
  go_wp2_with (fail)
  refine (I1.out 3 _ (by decide) (by decide)).mono ?_
  rintro e w5 ⟨s5, A5, n5, k5, rfl, hv5, hb5⟩
  have V5 := Lib.hid hv5
  have V45 := Lib.hid (V4.out.keep hb5)
  have HB5 := Lib.hid (bel_trans (B := w.heap.size) HB4.out hb5)
  have O5 := Lib.hid (O4.out.below hb5)
  clear hv5 hb5
  go_wp2_with (fail)
  refine (D1.out _ _ _ _ _ _ _ _ _ V45.out V5.out).mono ?_
  rintro e w6 ⟨s6, A6, n6, k6, rfl, hv6, hb6⟩
  have hbk := bel_trans (B := w.heap.size) HB5.out hb6
  have HB6 := Lib.hid (hbk.alloc hbk.size (numO false 0 s6 A6 n6 k6))
  have O6 := Lib.hid ((O5.out.below hb6).new (numO false 0 s6 A6 n6 k6))
  have V6 := Lib.hid (hv6.alloc (numO false 0 s6 A6 n6 k6))
  clear hv6 hb6 hbk
  go_wp2_with (fail)
  refine (I1.out 1 _ (by decide) (by decide)).mono ?_
  rintro e w7 ⟨s7, A7, n7, k7, rfl, hv7, hb7⟩
  have V7 := Lib.hid hv7
  have V67 := Lib.hid (V6.out.keep hb7)
  have HB7 := Lib.hid (bel_trans (B := w.heap.size) HB6.out hb7)
  have O7 := Lib.hid (O6.out.below hb7)
  clear hv7 hb7
  go_wp2_with (fail)
  refine (I1.out 2 _ (by decide) (by decide)).mono ?_
  rintro e w8 ⟨s8, A8, n8, k8, rfl, hv8, hb8⟩
  have V8 := Lib.hid hv8
  have V78 := Lib.hid (V7.out.keep hb8)
  have V68 := Lib.hid (V67.out.keep hb8)
  have HB8 := Lib.hid (bel_trans (B := w.heap.size) HB7.out hb8)
  have O8 := Lib.hid (O7.out.below hb8)
  clear hv8 hb8
  go_wp2_with (fail)
  refine (D2.out _ _ _ _ _ _ _ _ _ V78.out V8.out).mono ?_
  rintro e w9 ⟨rfl, hb9⟩
  have hbk := bel_trans (B := w.heap.size) HB8.out hb9
  have HB9 := Lib.hid (hbk.alloc hbk.size (numO true 4602678819172646912 false none 0 0))
  have O9 := Lib.hid ((O8.out.below hb9).new (numO true 4602678819172646912 false none 0 0))
  have V69 := Lib.hid ((V68.out.keep hb9).alloc (numO true 4602678819172646912 false none 0 0))
  clear hb9 hbk
  go_wp2_with (fail)
  refine (I1.out 9007199254740993 _ (by decide) (by decide)).mono ?_
  rintro e w10 ⟨s10, A10, n10, k10, rfl, hv10, hb10⟩
  have V10 := Lib.hid hv10
  have V610 := Lib.hid (V69.out.keep hb10)
  have HB10 := Lib.hid (bel_trans (B := w.heap.size) HB9.out hb10)
  have O10 := Lib.hid (O9.out.below hb10)
  clear hv10 hb10
  go_wp2_with (fail)
  refine (F1.out _ _).mono ?_
  rintro e w11 ⟨rfl, hb11⟩
  have V11 := Lib.hid (V10.out.keep hb11)
  have V611 := Lib.hid (V610.out.keep hb11)
  have HB11 := Lib.hid (bel_trans (B := w.heap.size) HB10.out hb11)
  have O11 := Lib.hid (O10.out.below hb11)
  clear hb11
  go_wp2_with (fail)
  refine (C1.out _ _ _ _ _ V11.out).mono ?_
  rintro e w12 ⟨rfl, hb12⟩
  have V612 := Lib.hid (V611.out.keep hb12)
  have HB12 := Lib.hid (bel_trans (B := w.heap.size) HB11.out hb12)
  have O12 := Lib.hid (O11.out.below hb12)
  clear hb12
  obtain ⟨p0, p1, p2, p3, -, -, -, -, pl⟩ := O12.out.tl.tl.nx0.facts
  go_wp2_with (fail)
  refine (T1.out _ _ _ _ _ (HV.out.below HB12.out)).mono ?_
  rintro e w13 ⟨rfl, hb13⟩
  have V613 := Lib.hid (V612.out.keep hb13)
  have HB13 := Lib.hid (bel_trans (B := w.heap.size) HB12.out hb13)
  have O13 := Lib.hid (O12.out.below hb13)
  clear hb13 p0 p1 p2 p3 pl
  obtain ⟨p0, p1, p2, p3, -, -, -, -, pl⟩ := O13.out.tl.nx0.facts
  go_wp2_with (fail)
  refine (T2.out _ _ _ _ _ (HV.out.below HB13.out) V613.out).mono ?_
  rintro e w14 ⟨rfl, hb14⟩
  have HB14 := Lib.hid (bel_trans (B := w.heap.size) HB13.out hb14)
  have O14 := Lib.hid (O13.out.below hb14)
  clear hb14 p0 p1 p2 p3 pl
  obtain ⟨p0, p1, p2, p3, -, -, -, -, pl⟩ := O14.out.nx0.facts
  go_wp2_with (fail)
  refine (T3.out _ _ _ _ _ (HV.out.below HB14.out)).mono ?_
  rintro e w15 ⟨rfl, hb15⟩
  have HB15 := Lib.hid (bel_trans (B := w.heap.size) HB14.out hb15)
  clear hb15 p0 p1 p2 p3 pl
  go_wp2
  go_ret
  exact ⟨rfl, HB15.out⟩

end LM
end Go.Proofs.YtpnjddfnlaonoaaGreatDoor

namespace Go.Proofs.YtpnjddfnlaonoaaGreatDoor
open Go Go.RowKit
namespace LM
set_option linter.unusedVariables false
attribute [local go_sem] run_store_flt

end LM
end Go.Proofs.YtpnjddfnlaonoaaGreatDoor

namespace Go.Proofs.YtpnjddfnlaonoaaGreatDoor
open Go Go.RowKit
namespace LM
set_option linter.unusedVariables false
attribute [local go_sem] run_store_flt

/-- what comes of two exact numbers, by what is done -/
def AnsW (op x y z e : Int) : Prop :=
  (op = 0 ∧ ∃ r, QOut x y z r e) ∨ (op = 1 ∧ ∃ q, QOut x y q z e) ∨ (op = 2 ∧ MOut x y z e) ∨ (op = 3 ∧ z = ((Nat.gcd x.natAbs y.natAbs : Nat) : Int) ∧ e = 0) ∨ (op = 4 ∧ z = (powR x y).1 ∧ e = (powR x y).2) ∨
    ((op ≠ 0 ∧ op ≠ 1 ∧ op ≠ 2 ∧ op ≠ 3 ∧ op ≠ 4) ∧ z = 0 ∧ e = 41)
theorem AnsW.same {op x y z e z' e' : Int} (h : AnsW op x y z e) (k : AnsW op x y z' e') : z = z' ∧ e = e' := by
  rcases h with ⟨h0, r, h⟩ | ⟨h0, q, h⟩ | ⟨h0, h⟩ | ⟨h0, h, h1⟩ | ⟨h0, h, h1⟩ | ⟨h0, h, h1⟩ <;> rcases k with ⟨k0, r', k⟩ | ⟨k0, q', k⟩ | ⟨k0, k⟩ | ⟨k0, k, k1⟩ | ⟨k0, k, k1⟩ | ⟨k0, k, k1⟩ <;> first | omega | skip
  · have := h.same k; exact ⟨this.1, this.2.2⟩
  · have := h.same k; exact ⟨this.2.1, this.2.2⟩
  · exact h.same k
end LM
end Go.Proofs.YtpnjddfnlaonoaaGreatDoor

namespace Go.Proofs.YtpnjddfnlaonoaaGreatDoor
open Go Go.RowKit
namespace LM
set_option linter.unusedVariables false
attribute [local go_sem] run_store_flt

end LM
end Go.Proofs.YtpnjddfnlaonoaaGreatDoor

namespace Go.Proofs.YtpnjddfnlaonoaaGreatDoor
open Go Go.RowKit
namespace LM
set_option linter.unusedVariables false
attribute [local go_sem] run_store_flt

/-- can it be? -/
def rightN (fl : Bool) (f : Nat) (s : Bool) (xs : List Nat) : Bool := if fl then (!s && decide (xs.length = 0)) else (decide (f = 0) && rightB s xs)

set_option maxRecDepth 100000 in
set_option maxHeartbeats 2000000 in
theorem rnright_f (f : Nat) (s : Bool) (A : Option Addr) (n c : Nat) (w : World) :
    Calls Tryz.prog 16 #[numA true f s A n c] w fun e w' => e = .returned (.bool (!s && decide (n = 0))) ∧ Below w.heap.size w w' := by
  have Y0 := Nx.new w true f s A n c
  have hb0 : Below w.heap.size w (w.alloc (numO true f s A n c)) := (Below.refl _ w).alloc (Nat.le_refl _) _
  obtain ⟨y0, y1, y2, y3, -, -, -, -, yl⟩ := Y0.facts
  have HB0 := Lib.hid hb0
  have hd : ((n : Int) == 0) = decide (n = 0) := by
    rw [Bool.eq_iff_iff, beq_iff_eq, decide_eq_true_iff]; omega
  clear hb0 Y0
  cases s
  · go_enter Tryz.func16, Tryz.ntmps16
    go_wp2_with (fail)
    go_ret
    exact ⟨rfl, HB0.out⟩
  · go_enter Tryz.func16, Tryz.ntmps16
    go_wp2_with (fail)
    go_ret
    exact ⟨rfl, HB0.out⟩
set_option maxRecDepth 100000 in
set_option maxHeartbeats 2000000 in
theorem rnright_n (f : Nat) (hf : f ≠ 0) (s : Bool) (A : Option Addr) (n c : Nat) (w : World) :
    Calls Tryz.prog 16 #[numA false f s A n c] w fun e w' => e = .returned (.bool false) ∧ Below w.heap.size w w' := by
  have Y0 := Nx.new w false f s A n c
  have hb0 : Below w.heap.size w (w.alloc (numO false f s A n c)) := (Below.refl _ w).alloc (Nat.le_refl _) _
  obtain ⟨y0, y1, y2, y3, -, -, -, -, yl⟩ := Y0.facts
  have HB0 := Lib.hid hb0
  have h1 := run_mbits f
  have hd : ((f : Int) == 0) = false := by
    rw [beq_eq_false_iff_ne]; omega
  clear hb0 Y0 hf
  go_enter Tryz.func16, Tryz.ntmps16
  go_wp2_with (fail)
  go_ret
  exact ⟨rfl, HB0.out⟩
set_option maxRecDepth 100000 in
set_option maxHeartbeats 2000000 in
theorem rnright_z (s : Bool) (A : Option Addr) (c : Nat) (xs : List Nat) (w : World) (ha : Rd w A xs) (hx : Lm xs) (hca : xs.length ≤ c) (hcm : c ≤ 9223372036854775807) (hnil : A = none → xs.length = 0 ∧ c = 0) :
    Calls Tryz.prog 16 #[numA false 0 s A xs.length c] w fun e w' => e = .returned (.bool (rightB s xs)) ∧ Below w.heap.size w w' := by
  have Y0 := Nx.new w false 0 s A xs.length c
  have hb0 : Below w.heap.size w (w.alloc (numO false 0 s A xs.length c)) := (Below.refl _ w).alloc (Nat.le_refl _) _
  obtain ⟨y0, y1, y2, y3, -, -, -, -, yl⟩ := Y0.facts
  have HB0 := Lib.hid hb0
  have h1 := run_mbits 0
  have R1 := Lib.hid (rright_any s A c xs _ (ha.below hb0) hx hca hcm hnil)
  clear hb0 Y0 ha hx hnil
  go_enter Tryz.func16, Tryz.ntmps16
  go_wp2_with (fail)
  refine R1.out.mono ?_
  rintro e w1 ⟨rfl, hb1⟩
  go_wp2_with (fail)
  go_ret
  exact ⟨rfl, bel_trans (B := w.heap.size) HB0.out hb1⟩
theorem rnright_any (fl : Bool) (f : Nat) (s : Bool) (A : Option Addr) (c : Nat) (xs : List Nat) (w : World) (ha : Rd w A xs) (hx : Lm xs) (hca : xs.length ≤ c) (hcm : c ≤ 9223372036854775807) (hnil : A = none → xs.length = 0 ∧ c = 0) :
    Calls Tryz.prog 16 #[numA fl f s A xs.length c] w fun e w' => e = .returned (.bool (rightN fl f s xs)) ∧ Below w.heap.size w w' := by
  unfold rightN
  cases fl
  · by_cases hf : f = 0
    · subst hf
      have h := rnright_z s A c xs w ha hx hca hcm hnil
      simpa using h
    · have h := rnright_n f hf s A xs.length c w
      rw [if_neg (by decide), decide_eq_false hf, Bool.false_and]
      exact h
  · rw [if_pos rfl]
    exact rnright_f f s A xs.length c w

set_option maxRecDepth 100000 in
set_option maxHeartbeats 2000000 in
/-- two exact ones -/
theorem rnsame_i (f f' : Nat) (s : Bool) (A : Option Addr) (n c : Nat) (s' : Bool) (A' : Option Addr) (n' c' : Nat) (z : Int) (w : World) (hx : IntR w (.agg #[.bool s, .slice A n c]) z) (hy : IntR w (.agg #[.bool s', .slice A' n' c']) z) (nz : ¬ BigI z) :
    Calls Tryz.prog 21 #[numA false f s A n c, numA false f' s' A' n' c'] w fun e w' => e = .returned (.bool true) ∧ Below w.heap.size w w' := by
  obtain ⟨W0, hW0, hb0, hO⟩ := two_num w false f s A n c false f' s' A' n' c'
  have HB0 := Lib.hid hb0
  have HW0 := Lib.hid hW0
  have C1 := Lib.hid (rsame2_yes (hx.keep hb0) (hy.keep hb0) nz)
  clear hb0 hO hW0 hx hy nz
  go_enter Tryz.func21, Tryz.ntmps21
  go_wp2_with (fail)
  rw [HW0.out]
  refine C1.out.mono ?_
  rintro e w1 ⟨rfl, hb1⟩
  go_wp2_with (fail)
  go_ret
  exact ⟨rfl, bel_trans (B := w.heap.size) HB0.out hb1⟩

theorem powI_fit : ∀ (k : Nat) (p a z : Int), powI k p a = some z → ¬ BigI z := by
  intro k
  induction k using Nat.strongRecOn with
  | _ k ih =>
    intro p a z h
    rw [powI] at h
    obtain ⟨u, hu⟩ : ∃ u, (if k % 2 = 1 then p * a else p) = u := ⟨_, rfl⟩
    rw [hu] at h
    by_cases hb : BigI u
    · rw [if_pos hb] at h; cases h
    · rw [if_neg hb] at h
      by_cases h2 : k / 2 = 0
      · rw [if_pos h2] at h
        injection h with h
        rw [← h]
        exact hb
      · rw [if_neg h2] at h
        by_cases h3 : BigI (a * a)
        · rw [if_pos h3] at h; cases h
        · rw [if_neg h3] at h
          exact ih (k / 2) (by omega) _ _ _ h
theorem gcd_fits {x y : Int} (hx : ¬ BigI x) (hy : ¬ BigI y) : ¬ BigI (Nat.gcd x.natAbs y.natAbs : Nat) := by
  intro hb
  unfold BigI at *
  rw [Int.natAbs_natCast] at hb
  rcases Nat.eq_zero_or_pos x.natAbs with h | h
  · rw [h, Nat.gcd_zero_left] at hb
    exact hy hb
  · exact hx (hb.mono (Nat.gcd_le_left _ h))
theorem AnsW.fit {op x y z e : Int} (h : AnsW op x y z e) (hx : ¬ BigI x) (hy : ¬ BigI y) : ¬ BigI z := by
  rcases h with ⟨_, r, h⟩ | ⟨_, q, h⟩ | ⟨_, h⟩ | ⟨_, rfl, _⟩ | ⟨_, rfl, _⟩ | ⟨_, rfl, _⟩
  · exact (h.fit hx).1
  · exact (h.fit hx).2
  · exact h.fit hy
  · exact gcd_fits hx hy
  · unfold powR
    split
    · split
      · exact zero_fits
      · rename_i hz
        exact powI_fit _ _ _ _ hz
    · exact zero_fits
  · exact zero_fits

end LM
end Go.Proofs.YtpnjddfnlaonoaaGreatDoor

namespace Go.Proofs.YtpnjddfnlaonoaaGreatDoor
open Go Go.RowKit
namespace LM
set_option linter.unusedVariables false

end LM
end Go.Proofs.YtpnjddfnlaonoaaGreatDoor

namespace Go.Proofs.YtpnjddfnlaonoaaGreatDoor
open Go Go.RowKit
namespace LM
set_option linter.unusedVariables false

end LM
end Go.Proofs.YtpnjddfnlaonoaaGreatDoor

namespace Go.Proofs.YtpnjddfnlaonoaaGreatDoor
open Go Go.RowKit
namespace LM
set_option linter.unusedVariables false

end LM
end Go.Proofs.YtpnjddfnlaonoaaGreatDoor

namespace Go.Proofs.YtpnjddfnlaonoaaGreatDoor
open Go Go.RowKit
namespace LM
set_option linter.unusedVariables false
attribute [local go_sem] run_store_flt

end LM
end Go.Proofs.YtpnjddfnlaonoaaGreatDoor

namespace Go.Proofs.YtpnjddfnlaonoaaGreatDoor
open Go Go.RowKit
namespace LM
set_option linter.unusedVariables false
attribute [local go_sem] run_store_flt

set_option maxRecDepth 100000 in
set_option maxHeartbeats 1000000 in
theorem rtsame_ff (f f' : Nat) (s : Bool) (A : Option Addr) (n c : Nat) (s' : Bool) (A' : Option Addr) (n' c' : Nat) (w : World)
    (b : Bool) (hC : ∀ W, Calls Tryz.prog 14 #[.float .f64 f, .float .f64 f'] W fun e w' => e = .returned (.bool b) ∧ W = w') :
    Calls Tryz.prog 21 #[numA true f s A n c, numA true f' s' A' n' c'] w fun e w' => e = .returned (.bool b) ∧ Below w.heap.size w w' := by
  obtain ⟨W0, hW0, hb0, hO⟩ := two_num w true f s A n c true f' s' A' n' c'
  have HB0 := Lib.hid hb0
  have HW0 := Lib.hid hW0
  have C1 := Lib.hid ((hC W0).mono fun e w' ⟨h1, h2⟩ => (show e = Ending.returned (.bool b) ∧ Below W0.heap.size W0 w' from ⟨h1, h2 ▸ Below.refl _ _⟩))
  clear hb0 hO hW0 hC
  go_enter Tryz.func21, Tryz.ntmps21
  go_wp2_with (fail)
  rw [HW0.out]
  refine C1.out.mono ?_
  rintro e w1 ⟨rfl, hb1⟩
  go_wp2_with (fail)
  go_ret
  exact ⟨rfl, bel_trans (B := w.heap.size) HB0.out hb1⟩
end LM
end Go.Proofs.YtpnjddfnlaonoaaGreatDoor

namespace Go.Proofs.YtpnjddfnlaonoaaGreatDoor
open Go Go.RowKit
namespace LM
set_option linter.unusedVariables false

end LM
end Go.Proofs.YtpnjddfnlaonoaaGreatDoor

namespace Go.Proofs.YtpnjddfnlaonoaaGreatDoor
open Go Go.Shelf Go.RowKit Go.Sort Go.Lib
namespace LM
set_option linter.unusedVariables false

set_option maxRecDepth 100000 in
set_option maxHeartbeats 4000000 in
theorem ftoaF_mzero (b B : Nat) (W0 : World) (v : Value) (w : World) (hbe : b = 9223372036854775808) (hob : OB B W0 0 [] v [] w) :
    Calls Tryz.prog 163 #[v, .float .f64 b, .int .u8 102, .int .i64 (-1)] w fun r w' =>
      ∃ v' g ds, r = .returned v' ∧ OB B W0 g ds v' (fmtF true [] 0) w' := by
  obtain ⟨bq, hbq⟩ : ∃ q, b / 4503599627370496 = q := ⟨_, rfl⟩
  have hbqi : (b : Int) / 4503599627370496 = (bq : Int) := by omega
  have hbql : bq < 4096 := by omega
  have hex2 : bits .and .i64 (bq : Int) 2047 = 0 := by
    have h := i64_and_nat bq 2047 (by omega) (by decide)
    have h2 : bq &&& 2047 = 0 := by rw [nat_mask11]; omega
    rw [h2] at h
    exact h
  have hfr2 : bits .and .u64 (b : Int) 4503599627370495 = 0 := by
    have h := u64_and_nat b 4503599627370495 (by omega) (by decide)
    have h2 : b &&& 4503599627370495 = 0 := by
      rw [show b &&& 4503599627370495 = b % 2 ^ 52 from Nat.and_two_pow_sub_one_eq_mod b 52]
      omega
    rw [h2] at h
    exact h
  have hneg2 : ((b : Int) / 9223372036854775808 != 0) = true := by
    rw [bne_iff_ne]; omega
  have RB := run_sbits b
  have FZ := Lib.hid fun k => fmtF_zero B W0 v [] (w.drewN k) true 0 (hob.drewN k) (by decide)
  clear hbe hbq hob
  go_enter Tryz.func163, Tryz.ntmps163
  go_wp2_with (fail)
  go_quiet (fail)
  go_wp2_with (fail)
  refine (FZ.out _).mono ?_
  rintro r w4 ⟨v4, rfl, hob4⟩
  go_wp2
  go_ret
  exact ⟨_, _, _, rfl, hob4⟩

end LM
end Go.Proofs.YtpnjddfnlaonoaaGreatDoor

namespace Go.Proofs.YtpnjddfnlaonoaaGreatDoor
open Go Go.Shelf Go.RowKit Go.Sort Go.Lib
namespace LM
set_option linter.unusedVariables false

set_option maxRecDepth 100000 in
theorem atoi_all : ((List.range 1999).all fun i => decide (Lib.atoi (expB ((i : Int) - 999)) = some ((i : Int) - 999))) = true := by decide +kernel
theorem atoi_exp {x : Int} (h0 : -999 ≤ x) (h1 : x ≤ 999) : Lib.atoi (expB x) = some x := by
  have h := List.all_eq_true.1 atoi_all (x + 999).toNat (List.mem_range.2 (by omega))
  have e : (((x + 999).toNat : Nat) : Int) - 999 = x := by omega
  rw [e] at h
  exact of_decide_eq_true h

/-- what stands before the e -/
abbrev preE (neg : Bool) (D : List UInt8) : List UInt8 := signB neg ++ (D.take 1 ++ restB D)
theorem fmtE_split (neg : Bool) (D : List UInt8) (dp : Int) : fmtE neg D dp = preE neg D ++ 101 :: expB (dp - 1) := by
  unfold fmtE
  simp [List.append_assoc]
theorem sign_mem {neg : Bool} {x : UInt8} (h : x ∈ signB neg) : x = 45 := by
  unfold signB at h
  cases neg <;> simp at h
  exact h
theorem pre_mem {neg : Bool} {D : List UInt8} {x : UInt8} (h : x ∈ preE neg D) : x = 45 ∨ x = 46 ∨ x ∈ D := by
  rcases List.mem_append.1 h with h | h
  · exact .inl (sign_mem h)
  · rcases List.mem_append.1 h with h | h
    · exact .inr (.inr (List.mem_of_mem_take h))
    · unfold restB at h
      split at h
      · cases h
      · rcases List.mem_cons.1 h with h | h
        · exact .inr (.inl h)
        · exact .inr (.inr (List.mem_of_mem_drop h))
theorem pre_e {neg : Bool} {D : List UInt8} {dp : Int} (h : FinT D dp) : 101 ∉ preE neg D := fun hm => by
  rcases pre_mem hm with h2 | h2 | h2
  · cases h2
  · cases h2
  · have := h.dig _ h2
    have e : (101 : UInt8).toNat = 101 := rfl
    omega
theorem pre_len {neg : Bool} {D : List UInt8} {dp : Int} (h : FinT D dp) : (preE neg D).length ≤ 22 ∧ preE neg D ≠ [] := by
  have h1 := h.le
  have h2 := h.ne
  have hs : (signB neg).length ≤ 1 := by unfold signB; cases neg <;> simp
  have hr : (restB D).length ≤ 20 := by
    unfold restB
    split
    · simp
    · simp; omega
  refine ⟨by rw [List.length_append, List.length_append, List.length_take]; omega, fun e => ?_⟩
  have h5 : (signB neg ++ (D.take 1 ++ restB D)).length = 0 := by
    rw [show signB neg ++ (D.take 1 ++ restB D) = [] from e]
    rfl
  rw [List.length_append, List.length_append, List.length_take] at h5
  omega
theorem exp_len (x : Int) : (expB x).length ≤ 4 := by
  unfold expB
  simp only [List.length_cons]
  split
  · simp
  · split <;> simp
theorem fmtF_len {neg : Bool} {D : List UInt8} {dp : Int} (h : FinT D dp) : (fmtF neg D dp).length ≤ 1000 ∧ fmtF neg D dp ≠ [] := by
  have h1 := h.le
  have h2 := h.ne
  have h3 := h.dp
  have hs : (signB neg).length ≤ 1 := by unfold signB; cases neg <;> simp
  have hi : (intB D dp).length ≤ 420 ∧ 1 ≤ (intB D dp).length := by
    unfold intB
    split
    · rw [List.length_append, List.length_take, List.length_replicate]; omega
    · simp
  have hf : (fracB D dp).length ≤ 430 := by
    unfold fracB
    split
    · simp
    · rw [List.length_cons, List.length_append, List.length_replicate, List.length_drop]; omega
  unfold fmtF
  refine ⟨by rw [List.length_append, List.length_append]; omega, fun e => ?_⟩
  have h5 : (signB neg ++ (intB D dp ++ fracB D dp)).length = 0 := by
    rw [e]
    rfl
  rw [List.length_append, List.length_append] at h5
  omega

/-- a finite number against the ends of the forms -/
theorem fin_facts (b a : Nat) (hb : b < 18446744073709551616) (ha : b % 9223372036854775808 = a) (hfin : a < 9218868437227405312) :
    ¬ nanW b ∧ (FloatKind.f64.format.order b 9218868437227405311 == some .gt) = false ∧ (FloatKind.f64.format.order (Op.negFloat .f64 b) 9218868437227405311 == some .gt) = false ∧ (FloatKind.f64.format.order a 0 == some .eq) = decide (a = 0) := by
  obtain ⟨s, m, e, hc, rfl⟩ := word_of b hb (by omega)
  refine ⟨can_nan hc, can_pinf hc, can_minf hc, ?_⟩
  rw [can_abs hc] at ha
  subst ha
  rw [canf_zero hc]
  obtain ⟨h1, h2, h3, h4⟩ := hc
  rw [decide_eq_decide]
  unfold wordF
  simp
  omega
theorem small_facts (a : Nat) (h : a < 4503599627370496) : (FloatKind.f64.format.order a 4562254508917369340 == some .gt || FloatKind.f64.format.order a 4562254508917369340 == some .eq) = false := by
  have hc : CanF a (-1074) := ⟨by omega, by omega, by omega, .inr rfl⟩
  have e : a = wordF false a (-1074) := by unfold wordF; simp
  have hk : CanF 4611686018427388 (-62) := by unfold CanF; decide
  have hlt : sv false a (-1074) < sv false 4611686018427388 (-62) := by
    rw [sv_false, sv_false]
    have h2 : 4611686018427388 * 1 ≤ 4611686018427388 * 2 ^ ((-62 : Int) + 1074).toNat := Nat.mul_le_mul_left _ (Nat.pow_pos (by decide))
    have h3 : a * 2 ^ ((-1074 : Int) + 1074).toNat = a := by rw [show ((-1074 : Int) + 1074).toNat = 0 from by decide]; simp
    rw [h3]
    generalize 4611686018427388 * 2 ^ ((-62 : Int) + 1074).toNat = z at h2
    omega
  have ho : FloatKind.f64.format.order a 4562254508917369340 = some (compare (sv false a (-1074)) (sv false 4611686018427388 (-62))) := by
    have h2 := order_num (s := false) (t := false) hc hk
    rw [← e, show wordF false 4611686018427388 (-62) = 4562254508917369340 from by decide] at h2
    exact h2
  rw [ho, cmp_gt, cmp_eq, decide_eq_false (by omega), decide_eq_false (by omega)]
  rfl

/-- which of the two forms -/
abbrev FormF (a : Nat) : Prop := (FloatKind.f64.format.order a 4562254508917369340 == some .gt || FloatKind.f64.format.order a 4562254508917369340 == some .eq) = true ∧ (FloatKind.f64.format.order a 4921056587992461136 == some .lt) = true
abbrev FormE (a : Nat) : Prop := (FloatKind.f64.format.order a 4562254508917369340 == some .gt || FloatKind.f64.format.order a 4562254508917369340 == some .eq) = false ∨ ((FloatKind.f64.format.order a 4562254508917369340 == some .gt || FloatKind.f64.format.order a 4562254508917369340 == some .eq) = true ∧ (FloatKind.f64.format.order a 4921056587992461136 == some .lt) = false)
theorem form_or (a : Nat) : FormF a ∨ FormE a := by
  unfold FormF FormE
  generalize (FloatKind.f64.format.order a 4562254508917369340 == some .gt || FloatKind.f64.format.order a 4562254508917369340 == some .eq) = x
  generalize (FloatKind.f64.format.order a 4921056587992461136 == some .lt) = y
  cases x <;> cases y <;> simp

theorem ftext_e (b a : Nat) (neg : Bool) (D : List UInt8) (dp : Int) (hf : FinT D dp) (hb : b < 18446744073709551616) (ha : b % 9223372036854775808 = a) (hfin : a < 9218868437227405312) (h0 : a ≠ 0) (hz : FormE a) (hok : FtoaOk b 101 (fmtE neg D dp)) (w : World) (hv : FV w) :
    Calls Tryz.prog 12 #[.float .f64 b] w fun e w' => e = .returned (.string ⟨(pointB (preE neg D) ++ 101 :: Lib.itoa (dp - 1)).toArray⟩) ∧ Below w.heap.size w w' := by
  obtain ⟨f1, f2, f3, f4⟩ := fin_facts b a hb ha hfin
  rw [decide_eq_false h0] at f4
  have h4 := hf.dp
  obtain ⟨p1, p2⟩ := pre_len (neg := neg) hf
  exact flotext_e b a (fmtE neg D dp) (preE neg D) (expB (dp - 1)) (dp - 1) w hb ha f1 f2 f3 f4 hz (by rw [fmtE_split, List.length_append, List.length_cons]; have := exp_len (dp - 1); omega) (fmtE_split _ _ _) (pre_e hf) (by have := exp_len (dp - 1); omega) (atoi_exp (by omega) (by omega)) (by omega) hv.tab (hok w hv)
theorem ftext_f (b a : Nat) (neg : Bool) (D : List UInt8) (dp : Int) (hf : FinT D dp) (hb : b < 18446744073709551616) (ha : b % 9223372036854775808 = a) (hfin : a < 9218868437227405312) (h0 : a ≠ 0) (hz : FormF a) (hok : FtoaOk b 102 (fmtF neg D dp)) (w : World) (hv : FV w) :
    Calls Tryz.prog 12 #[.float .f64 b] w fun e w' => e = .returned (.string ⟨(pointB (fmtF neg D dp)).toArray⟩) ∧ Below w.heap.size w w' := by
  obtain ⟨f1, f2, f3, f4⟩ := fin_facts b a hb ha hfin
  rw [decide_eq_false h0] at f4
  obtain ⟨p1, p2⟩ := fmtF_len (neg := neg) hf
  exact flotext_f b a (fmtF neg D dp) w hb ha f1 f2 f3 (.inr ⟨f4, hz.1, hz.2⟩) (by omega) p2 (hok w hv)

end LM
end Go.Proofs.YtpnjddfnlaonoaaGreatDoor

namespace Go.Proofs.YtpnjddfnlaonoaaGreatDoor
open Go Go.Shelf Go.RowKit Go.Sort Go.Lib
namespace LM
set_option linter.unusedVariables false

/-- is there a point in it -/
def dotB (l : List UInt8) : Bool := match l with
  | [] => false
  | c :: r => decide (c.toNat = 46) || dotB r
theorem dot_iff : ∀ (l : List UInt8), dotB l = decide (46 ∈ l)
  | [] => by simp [dotB]
  | c :: r => by
    unfold dotB
    rw [dot_iff r]
    have h : c.toNat = 46 ↔ c = 46 := ⟨fun h => UInt8.toNat_inj.1 h, fun h => by rw [h]; rfl⟩
    by_cases hc : c = 46
    · subst hc; simp
    · have h2 : ¬ c.toNat = 46 := fun h3 => hc (h.1 h3)
      rw [decide_eq_false h2, Bool.false_or, decide_eq_decide]
      constructor
      · exact fun h4 => List.mem_cons_of_mem _ h4
      · intro h4
        rcases List.mem_cons.1 h4 with h5 | h5
        · exact absurd h5.symm hc
        · exact h5
theorem point_dot (l : List UInt8) : pointB l = if dotB l = true then l else l ++ [46, 48] := by
  unfold pointB
  rw [dot_iff]
  by_cases h : 46 ∈ l
  · rw [if_pos h, if_pos (decide_eq_true h)]
  · rw [if_neg h, if_neg (by simpa using h)]

theorem dec_three {u : Nat} (h1 : ¬ u < 100) (h2 : u < 1000) : decDigits u = [UInt8.ofNat (48 + u / 100), UInt8.ofNat (48 + u / 10 % 10), UInt8.ofNat (48 + u % 10)] := by
  have e : decDigits u = decDigits (u / 10) ++ [UInt8.ofNat (48 + u % 10)] := by
    rw [decDigits]
    exact dif_neg (by omega)
  rw [e, decDigits_two (by omega) (by omega), show u / 10 / 10 = u / 100 from by omega]
  rfl
theorem exp_itoa {x : Int} (h0 : -999 ≤ x) (h1 : x ≤ 999) : ∃ sg P T, expB x = sg :: P ∧ ((sg = 43 ∧ Lib.itoa x = T) ∨ (sg = 45 ∧ Lib.itoa x = 45 :: T)) ∧
    ((∃ c, P = [48, c] ∧ T = [c]) ∨ (T = P ∧ ∃ c r, P = c :: r ∧ 48 < c.toNat)) ∧ 2 ≤ P.length ∧ P.length ≤ 3 ∧ ∀ b ∈ P, 48 ≤ b.toNat ∧ b.toNat ≤ 57 := by
  obtain ⟨u, hu⟩ : ∃ u, x.natAbs = u := ⟨_, rfl⟩
  have hd : ∀ v : Nat, v < 10 → (UInt8.ofNat (48 + v)).toNat = 48 + v := fun v hv => by
    have : (UInt8.ofNat (48 + v)).toNat = (48 + v) % 256 := by simp
    rw [this]; omega
  have hi : (x < 0 ∧ Lib.itoa x = 45 :: decDigits u) ∨ (¬ x < 0 ∧ Lib.itoa x = decDigits u) := by
    unfold Lib.itoa
    by_cases hx : x < 0
    · rw [if_pos hx, hu]; exact .inl ⟨hx, rfl⟩
    · rw [if_neg hx, show x.toNat = u from by omega]; exact .inr ⟨hx, rfl⟩
  unfold expB
  rw [hu]
  refine ⟨if x < 0 then 45 else 43, if u < 10 then [48, UInt8.ofNat (48 + u)] else if u < 100 then [UInt8.ofNat (48 + u / 10), UInt8.ofNat (48 + u % 10)] else [UInt8.ofNat (48 + u / 100), UInt8.ofNat (48 + u / 10 % 10), UInt8.ofNat (48 + u % 10)], decDigits u, rfl, ?_, ?_⟩
  · rcases hi with ⟨h2, h3⟩ | ⟨h2, h3⟩
    · rw [if_pos h2]; exact .inr ⟨rfl, h3⟩
    · rw [if_neg h2]; exact .inl ⟨rfl, h3⟩
  · by_cases k1 : u < 10
    · rw [if_pos k1, decDigits_one k1]
      refine ⟨.inl ⟨_, rfl, rfl⟩, by simp, by simp, fun b hb => ?_⟩
      simp only [List.mem_cons, List.not_mem_nil, or_false] at hb
      rcases hb with rfl | rfl
      · decide
      · rw [hd u k1]; omega
    · rw [if_neg k1]
      by_cases k2 : u < 100
      · rw [if_pos k2, decDigits_two k1 k2]
        refine ⟨.inr ⟨rfl, _, _, rfl, by rw [hd _ (by omega)]; omega⟩, by simp, by simp, fun b hb => ?_⟩
        simp only [List.mem_cons, List.not_mem_nil, or_false] at hb
        rcases hb with rfl | rfl
        · rw [hd _ (by omega)]; omega
        · rw [hd _ (by omega)]; omega
      · rw [if_neg k2, dec_three k2 (by omega)]
        refine ⟨.inr ⟨rfl, _, _, rfl, by rw [hd _ (by omega)]; omega⟩, by simp, by simp, fun b hb => ?_⟩
        simp only [List.mem_cons, List.not_mem_nil, or_false] at hb
        rcases hb with rfl | rfl | rfl
        · rw [hd _ (by omega)]; omega
        · rw [hd _ (by omega)]; omega
        · rw [hd _ (by omega)]; omega

set_option maxRecDepth 100000 in
set_option maxHeartbeats 4000000 in
theorem rtext_f (b a c : Nat) (l : List UInt8) (w : World) (hb : b < 18446744073709551616) (ha : b % 9223372036854775808 = a) (hcw : canW b = c) (hc1 : c ≠ 9221120237041090561) (hc2 : c ≠ 9218868437227405312) (hc3 : c ≠ 18442240474082181120)
    (z : (FloatKind.f64.format.order a 0 == some .eq) = true ∨ ((FloatKind.f64.format.order a 0 == some .eq) = false ∧ (FloatKind.f64.format.order a 4562254508917369340 == some .gt || FloatKind.f64.format.order a 4562254508917369340 == some .eq) = true ∧ (FloatKind.f64.format.order a 4921056587992461136 == some .lt) = true))
    (hl : l.length ≤ 1000) (hl0 : l ≠ [])
    (hF : ∀ v w1, OB w.heap.size w 0 [] v [] w1 → Calls Tryz.prog 163 #[v, .float .f64 b, .int .u8 (102 : Nat), .int .i64 (-1)] w1 fun r w' => ∃ v' g ds, r = .returned v' ∧ OB w.heap.size w g ds v' l w') :
    Calls Tryz.prog 13 #[.float .f64 b] w fun e w' => e = .returned (.string ⟨(pointB l).toArray⟩) ∧ Below w.heap.size w w' := by
  have hA := fun W => abs_any b W hb
  rw [ha] at hA
  have hB := fun W => rbits_any b W hb
  rw [hcw] at hB
  have A1 := Lib.hid hA
  have B1 := Lib.hid hB
  have F1 := Lib.hid (format_any b 102 l w hl0 (by decide) hF)
  have d1 : ((c : Int) == 9221120237041090561) = false := by rw [beq_eq_false_iff_ne]; omega
  have d2 : ((c : Int) == 9218868437227405312) = false := by rw [beq_eq_false_iff_ne]; omega
  have d3 : ((c : Int) == 18442240474082181120) = false := by rw [beq_eq_false_iff_ne]; omega
  obtain ⟨s, hs⟩ : ∃ s : ByteArray, s = ⟨l.toArray⟩ := ⟨_, rfl⟩
  have hsl : s.data.toList = l := by rw [hs]
  have hss : s.size ≤ 1000 := by rw [Lib.size_eq, hsl]; exact hl
  rw [← hs] at F1
  have HP := Lib.hid (point_dot l)
  obtain ⟨R, hR⟩ : ∃ R, dotB l = R := ⟨_, rfl⟩
  rw [hR] at HP
  have HR := Lib.hid (show dotB (s.data.toList.drop 0) = R by rw [hsl]; exact hR)
  have HBY := Lib.hid (byF_at s)
  have HS := Lib.hid hs
  have HSL := Lib.hid hsl
  clear hA hB hF ha hcw hc1 hc2 hc3 hR hs hsl hl0
  rcases z with z0 | ⟨z0, z1, z2⟩
  all_goals
    go_enter Tryz.func13, Tryz.ntmps13
    go_wp2_with (fail)
    refine (B1.out _).mono ?_
    rintro e w' ⟨rfl, rfl⟩
    go_wp2_with (fail)
    refine (A1.out _).mono ?_
    rintro e w' ⟨rfl, rfl⟩
    go_wp2_with (fail)
    refine F1.out.mono ?_
    rintro e w1 ⟨rfl, hb1⟩
    have HB1 := Lib.hid hb1
    clear hb1
    go_wp2_with (fail)
    go_loopg [6] s.size (fun qq i wr => wr = w1 ∧ ∃ j : Nat, s.size - j = qq ∧ j ≤ s.size ∧ i = .int .i64 (j : Int) ∧ Hid (dotB (s.data.toList.drop j) = R))
    case atStart => exact ⟨rfl, 0, rfl, Nat.zero_le _, rfl, HR⟩
    case round =>
      obtain ⟨rfl, j, rfl, hj, rfl, hrun⟩ := hrel
      clear HR
      by_cases hlt : j < s.size
      · obtain ⟨c8, hd, hc8⟩ := drop_byte s j hlt
        have hby := HBY.out j hlt
        have h1 := hrun.out
        rw [hd] at h1
        unfold dotB at h1
        rw [hc8] at h1
        obtain ⟨x, hx⟩ : ∃ x, byF s j = x := ⟨_, rfl⟩
        rw [hx] at hby h1
        have e0 : decide ((j : Int) < (s.size : Int)) = true := decide_eq_true (by omega)
        clear hd hc8 hx hrun
        by_cases h : x = 46
        · have e1 : ((x : Int) == 46) = true := by rw [h]; rfl
          have H1 := Lib.hid (show R = true by rw [← h1, decide_eq_true h]; rfl)
          clear h1 h
          go_wp2_with (fail)
          go_ret
          refine ⟨?_, HB1.out⟩
          rw [HP.out, H1.out, if_pos rfl, HS.out]
          rfl
        · have e1 : ((x : Int) == 46) = false := by rw [beq_eq_false_iff_ne]; omega
          have H1 := Lib.hid (show dotB (s.data.toList.drop (j + 1)) = R by rw [← h1, decide_eq_false h]; rfl)
          clear h1 h
          go_wp2_with (fail)
          go_roundg (s.size - (j + 1))
          case measure => omega
          case rel => exact ⟨rfl, j + 1, rfl, by omega, by go_num, H1⟩
      · have hje : j = s.size := by omega
        subst hje
        have h1 := hrun.out
        rw [List.drop_of_length_le (by rw [← Lib.size_eq]; exact Nat.le_refl _)] at h1
        have H1 := Lib.hid (show R = false from h1.symm)
        clear hrun h1 HBY
        go_wp2_with (fail)
        go_ret
        refine ⟨?_, HB1.out⟩
        rw [HP.out, H1.out, if_neg (by simp), HS.out]
        rfl

end LM
end Go.Proofs.YtpnjddfnlaonoaaGreatDoor
