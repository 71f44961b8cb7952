/- Walks for Small: exact's Right; the document's Of and Small. -/
import Derived.Test.YtpaefbojilnnnaaGreatDoorJ29
import Derived.Test.YtpaefbojilnnnaaGreatDoorJ26
import Derived.Test.YtpaefbojilnnnaaGreatDoorJ27
import Derived.LoopTactic
namespace Go.Proofs.YtpaefbojilnnnaaGreatDoor
open Go.RowKit
namespace LM
set_option linter.unusedVariables false

theorem trim_last {xs : List Nat} {j : Nat} (hj : xs.length = j + 1) : (trim xs = xs) ↔ xs[j]?.getD 0 ≠ 0 := by
  constructor
  · intro h h0
    have h1 := trim_take_zero xs j (by omega) h0
    rw [← hj, List.take_length] at h1
    have h2 := trim_length_le (xs.take j)
    have h3 := congrArg List.length h
    rw [h1] at h3
    rw [List.length_take] at h2
    omega
  · intro h
    have h1 := trim_take_pos xs j (by omega) h
    rw [← hj, List.take_length] at h1
    exact h1

set_option maxRecDepth 100000 in
set_option maxHeartbeats 2000000 in
theorem eright_nil_false (A : Option Addr) (c : Nat) (w : World) :
    Calls Tryz.prog 99 #[.agg #[.bool false, .slice A 0 c]] w fun e w' => e = .returned (.bool true) ∧ Below w.heap.size w w' := by
  have HB := Lib.hid (show Below w.heap.size w (w.alloc (.cells #[.bool false, .slice A 0 c] 38)) from (Below.refl _ w).alloc (Nat.le_refl _) _)
  go_enter Tryz.func99, Tryz.ntmps99
  go_wp2
  go_ret
  exact ⟨rfl, HB.out⟩

set_option maxRecDepth 100000 in
set_option maxHeartbeats 2000000 in
theorem eright_nil_true (A : Option Addr) (c : Nat) (w : World) :
    Calls Tryz.prog 99 #[.agg #[.bool true, .slice A 0 c]] w fun e w' => e = .returned (.bool false) ∧ Below w.heap.size w w' := by
  have HB := Lib.hid (show Below w.heap.size w (w.alloc (.cells #[.bool true, .slice A 0 c] 38)) from (Below.refl _ w).alloc (Nat.le_refl _) _)
  go_enter Tryz.func99, Tryz.ntmps99
  go_wp2
  go_ret
  exact ⟨rfl, HB.out⟩

set_option maxRecDepth 100000 in
set_option maxHeartbeats 2000000 in
theorem eright_long (s : Bool) (A : Option Addr) (c j : Nat) (xs : List Nat) (w : World) (ha : Rd w A xs) (hx : Lm xs) (hj : xs.length = j + 1) (hl : j ≤ 1000) (h : 64 ≤ j) :
    Calls Tryz.prog 99 #[.agg #[.bool s, .slice A (j + 1) c]] w fun e w' => e = .returned (.bool false) ∧ Below w.heap.size w w' := by
  have HB := Lib.hid (show Below w.heap.size w (w.alloc (.cells #[.bool s, .slice A (j + 1) c] 38)) from (Below.refl _ w).alloc (Nat.le_refl _) _)
  have d1 : decide (((j + 1 : Nat) : Int) ≤ 64) = false := decide_eq_false (by omega)
  have d2 : decide (j + 1 ≤ 64) = false := decide_eq_false (by omega)
  have d3 : decide ((j : Int) + 1 ≤ 64) = false := decide_eq_false (by omega)
  clear ha hx
  go_enter Tryz.func99, Tryz.ntmps99
  go_wp2
  go_ret
  exact ⟨rfl, HB.out⟩

set_option maxRecDepth 100000 in
set_option maxHeartbeats 2000000 in
theorem eright_zero (s : Bool) (A : Option Addr) (c j : Nat) (xs : List Nat) (w : World) (ha : Rd w A xs) (hx : Lm xs) (hj : xs.length = j + 1) (hl : j ≤ 1000) (h : j < 64) (hz : xs[j]?.getD 0 = 0) :
    Calls Tryz.prog 99 #[.agg #[.bool s, .slice A (j + 1) c]] w fun e w' => e = .returned (.bool false) ∧ Below w.heap.size w w' := by
  have HB := Lib.hid (show Below w.heap.size w (w.alloc (.cells #[.bool s, .slice A (j + 1) c] 38)) from (Below.refl _ w).alloc (Nat.le_refl _) _)
  have d1 : decide (((j + 1 : Nat) : Int) ≤ 64) = true := decide_eq_true (by omega)
  have d2 : decide (j + 1 ≤ 64) = true := decide_eq_true (by omega)
  have d3 : decide ((j : Int) + 1 ≤ 64) = true := decide_eq_true (by omega)
  obtain ⟨b, off, rfl, hb, hcell⟩ := (ha.alloc (.cells #[.bool s, .slice A (j + 1) c] 38)).at_ (by omega : j < xs.length)
  obtain ⟨y, hy⟩ : ∃ y, xs[j]?.getD 0 = y := ⟨_, rfl⟩
  rw [hy] at hz hcell
  have hz2 : (((y : Nat) : Int) == 0) = true := by rw [hz]; rfl
  have hz3 : (((y : Nat) : Int) != 0) = false := by rw [bne, hz2]; rfl
  subst hz
  have hb2 : b < w.heap.size + 1 := by simpa using hb
  clear ha hx hy
  go_enter Tryz.func99, Tryz.ntmps99
  go_wp2
  go_ret
  exact ⟨rfl, HB.out⟩

set_option maxRecDepth 100000 in
set_option maxHeartbeats 2000000 in
theorem eright_top (s : Bool) (A : Option Addr) (c j : Nat) (xs : List Nat) (w : World) (ha : Rd w A xs) (hx : Lm xs) (hj : xs.length = j + 1) (hl : j ≤ 1000) (h : j < 64) (hz : xs[j]?.getD 0 ≠ 0) :
    Calls Tryz.prog 99 #[.agg #[.bool s, .slice A (j + 1) c]] w fun e w' => e = .returned (.bool true) ∧ Below w.heap.size w w' := by
  have HB := Lib.hid (show Below w.heap.size w (w.alloc (.cells #[.bool s, .slice A (j + 1) c] 38)) from (Below.refl _ w).alloc (Nat.le_refl _) _)
  have d1 : decide (((j + 1 : Nat) : Int) ≤ 64) = true := decide_eq_true (by omega)
  have d2 : decide (j + 1 ≤ 64) = true := decide_eq_true (by omega)
  have d3 : decide ((j : Int) + 1 ≤ 64) = true := decide_eq_true (by omega)
  obtain ⟨b, off, rfl, hb, hcell⟩ := (ha.alloc (.cells #[.bool s, .slice A (j + 1) c] 38)).at_ (by omega : j < xs.length)
  obtain ⟨y, hy⟩ : ∃ y, xs[j]?.getD 0 = y := ⟨_, rfl⟩
  rw [hy] at hz hcell
  have hz2 : (((y : Nat) : Int) == 0) = false := by rw [beq_eq_false_iff_ne]; omega
  have hz3 : (((y : Nat) : Int) != 0) = true := by rw [bne, hz2]; rfl
  clear hz
  have hb2 : b < w.heap.size + 1 := by simpa using hb
  clear ha hx hy
  go_enter Tryz.func99, Tryz.ntmps99
  go_wp2
  go_ret
  exact ⟨rfl, HB.out⟩

theorem small_len {r : List Nat} (hc : Can r) (h : val r < 18446744073709551616 * 2) : r.length ≤ 3 := by
  rcases Nat.lt_or_ge 3 r.length with h1 | h1
  · have h2 := (can_len hc 3).1 h1
    have h3 : (4294967296 : Nat) ^ 3 = 18446744073709551616 * 4294967296 := by decide
    omega
  · exact h1

set_option maxRecDepth 100000 in
set_option maxHeartbeats 2000000 in
theorem rof2_pos (m : Nat) (hm : m ≤ 9223372036854775807) (w : World) :
    Calls Tryz.prog 108 #[.int .i64 (m : Int)] w (RetR w (sg false m)) := by
  obtain ⟨hb0, x0⟩ := newc1 w
  have HB0 := Lib.hid hb0
  have X0 := Lib.hid x0
  have H1 := Lib.hid (rof_any m (w.alloc (.cells #[.bool false, .slice none 0 0] 38)) (by omega))
  have hneg : decide (0 ≤ (m : Int)) = true := decide_eq_true (by omega)
  clear hb0 x0
  go_enter Tryz.func108, Tryz.ntmps108
  go_wp2_with fail
  refine H1.out.mono ?_
  rintro e w2 ⟨⟨v, rfl, A1, c1, r1, rfl, -, h3, h4, h5⟩, hb2⟩
  have hl := small_len h4 (by omega)
  have HM := Lib.hid (rmade_num false A1 c1 r1 w2 (by omega) h3 h4)
  rw [h5] at HM
  have Z2 := Lib.hid (X0.out.below hb2)
  have HB2 := Lib.hid (HB0.out.trans (hb2.mono HB0.out.size))
  clear h3 h4 h5 hb2
  go_wp2_with fail
  refine HM.out.mono ?_
  rintro e w3 ⟨s3, A3, n3, c3, rfl, hv3, hb3⟩
  have Z3 := Lib.hid (Z2.out.below hb3)
  obtain ⟨q0, q1, z0, z1, zl⟩ := Z3.out.facts
  have HB3 := Lib.hid (HB2.out.trans (hb3.mono HB2.out.size))
  have HV3 := Lib.hid hv3
  clear hv3 hb3
  go_wp2
  obtain ⟨W4, hW4, Z, hb4, -, hv4, -, -⟩ := stored_world Z3.out HB3.out (by omega) s3 A3 n3 c3
  rw [hW4]
  have HV4 := Lib.hid (hv4 _ _ HV3.out)
  obtain ⟨c0, c1', -, -, -⟩ := Z.facts
  clear q0 q1 z0 z1 zl hW4 hv4
  refine bodyPost_ret (v := .agg #[.bool s3, .slice A3 n3 c3]) (by simp [results, Tryz.results108, go_sem, c0, c1']) rfl ?_
  exact ⟨_, _, _, _, rfl, HV4.out, hb4⟩

set_option maxRecDepth 100000 in
set_option maxHeartbeats 2000000 in
theorem rof2_neg (k : Nat) (hm : k ≤ 9223372036854775807) (w : World) :
    Calls Tryz.prog 108 #[.int .i64 (-(k : Int) - 1)] w (RetR w (sg true (k + 1))) := by
  obtain ⟨hb0, x0⟩ := newc1 w
  have HB0 := Lib.hid hb0
  have X0 := Lib.hid x0
  have H1 := Lib.hid (rof_any k (w.alloc (.cells #[.bool false, .slice none 0 0] 38)) (by omega))
  have hneg : decide (0 ≤ -(k : Int) - 1) = false := decide_eq_false (by omega)
  have hsub : -1 - (-(k : Int) - 1) = (k : Int) := by omega
  clear hb0 x0
  go_enter Tryz.func108, Tryz.ntmps108
  go_wp2_with fail
  refine H1.out.mono ?_
  rintro e w2 ⟨⟨v, rfl, A1, c1, r1, rfl, -, h3, h4, h5⟩, hb2⟩
  have hl := small_len h4 (by omega)
  have hb3 : Below w.heap.size w (w2.alloc (.cells #[.int .u32 1] 133)) := (HB0.out.trans (hb2.mono HB0.out.size)).alloc (HB0.out.trans (hb2.mono HB0.out.size)).size _
  have r1n : Rd (w2.alloc (.cells #[.int .u32 1] 133)) (some ⟨w2.heap.size, 0, none⟩) [1] := rd_new w2 [1]
  have HP := Lib.hid (rplus_any A1 (some ⟨w2.heap.size, 0, none⟩) c1 1 r1 [1] _ (h3.alloc _) r1n h4.1 (lm_of (by decide)) (by omega) (by decide))
  rw [h5, show val [1] = 1 from rfl] at HP
  have Z1 := Lib.hid ((X0.out.below hb2).alloc (.cells #[.int .u32 1] 133))
  have HB1 := Lib.hid hb3
  clear h3 h4 h5 hb2 hb3 r1n
  go_wp2_with fail
  refine HP.out.mono ?_
  rintro e w5 ⟨⟨v, rfl, A2, c2, r2, rfl, -, h3, h4, h5⟩, hb5⟩
  have hl2 := small_len h4 (by omega)
  have HM := Lib.hid (rmade_num true A2 c2 r2 w5 (by omega) h3 h4)
  rw [h5] at HM
  have Z2 := Lib.hid (Z1.out.below hb5)
  have HB2 := Lib.hid (HB1.out.trans (hb5.mono HB1.out.size))
  clear h3 h4 h5 hb5
  go_wp2_with fail
  refine HM.out.mono ?_
  rintro e w3 ⟨s3, A3, n3, c3, rfl, hv3, hb3⟩
  have Z3 := Lib.hid (Z2.out.below hb3)
  obtain ⟨q0, q1, z0, z1, zl⟩ := Z3.out.facts
  have HB3 := Lib.hid (HB2.out.trans (hb3.mono HB2.out.size))
  have HV3 := Lib.hid hv3
  clear hv3 hb3
  go_wp2
  obtain ⟨W4, hW4, Z, hb4, -, hv4, -, -⟩ := stored_world Z3.out HB3.out (by omega) s3 A3 n3 c3
  rw [hW4]
  have HV4 := Lib.hid (hv4 _ _ HV3.out)
  obtain ⟨c0, c1', -, -, -⟩ := Z.facts
  clear q0 q1 z0 z1 zl hW4 hv4
  refine bodyPost_ret (v := .agg #[.bool s3, .slice A3 n3 c3]) (by simp [results, Tryz.results108, go_sem, c0, c1']) rfl ?_
  exact ⟨_, _, _, _, rfl, HV4.out, hb4⟩

theorem rof2_int (z : Int) (h1 : -9223372036854775808 ≤ z) (h2 : z ≤ 9223372036854775807) (w : World) : Calls Tryz.prog 108 #[.int .i64 z] w (RetR w z) := by
  by_cases h : z < 0
  · obtain ⟨k, rfl⟩ : ∃ k : Nat, z = -(k : Int) - 1 := ⟨(-z - 1).toNat, by omega⟩
    have := rof2_neg k (by omega) w
    rw [show sg true (k + 1) = -(k : Int) - 1 from by simp [sg]; omega] at this
    exact this
  · obtain ⟨m, rfl⟩ : ∃ m : Nat, z = (m : Int) := ⟨z.natAbs, by omega⟩
    have := rof2_pos m (by omega) w
    rw [show sg false m = (m : Int) from rfl] at this
    exact this

theorem val_drop_step (xs : List Nat) (j : Nat) (hj : j < xs.length) : val (xs.drop j) = xs[j]?.getD 0 + 4294967296 * val (xs.drop (j + 1)) := by rw [drop_cons_get xs j hj, val]
theorem wrap64_u (V : Nat) (h : V < 18446744073709551616) : -9223372036854775808 ≤ wrap64 (V : Int) ∧ wrap64 (V : Int) ≤ 9223372036854775807 ∧ (wrap64 (V : Int) = (V : Int) ↔ V ≤ 9223372036854775807) := by
  unfold wrap64
  omega
theorem wrap64_d (V : Nat) (h : V < 18446744073709551616) : -9223372036854775808 ≤ wrap64 (IntKind.u64.wrap (-(V : Int))) ∧ wrap64 (IntKind.u64.wrap (-(V : Int))) ≤ 9223372036854775807 ∧ (wrap64 (IntKind.u64.wrap (-(V : Int))) = -(V : Int) ↔ V ≤ 9223372036854775808) := by
  rw [IntKind.wrap_u64]
  unfold wrap64
  omega

set_option maxRecDepth 100000 in
set_option maxHeartbeats 2000000 in
theorem rsmall_p2 (A : Option Addr) (c : Nat) (xs : List Nat) (w : World) (ha : Rd w A xs) (hx : Can xs) (hl : xs.length ≤ 64) (hs : false = (false && decide (0 < val xs))) (hl2 : xs.length ≤ 2) :
    Calls Tryz.prog 159 #[.agg #[.bool false, .slice A xs.length c]] w fun e w' => SmallE ((val xs : Nat) : Int) e ∧ Below w.heap.size w w' := by
  have d1 : decide ((xs.length : Int) ≤ 2) = true := decide_eq_true (by omega)
  have d2 : decide (xs.length ≤ 2) = true := decide_eq_true (by omega)
  have hval : val xs < 18446744073709551616 := by
    have h1 := val_len_lt hx.1 (n := 2) hl2
    exact h1
  obtain ⟨wl, wu, wiff⟩ := wrap64_u (val xs) hval
  obtain ⟨nn, hnn⟩ : ∃ nn : Int, (wrap64 ((val xs : Nat) : Int)) = nn := ⟨_, rfl⟩
  rw [hnn] at wl wu wiff
  have HNN := Lib.hid hnn
  have HIF : Hid (nn = ((val xs : Nat) : Int) ↔ val xs ≤ 9223372036854775807) := Lib.hid wiff
  have hxi : sg false (val xs) = ((val xs : Nat) : Int) := rfl
  have hb0 : Below w.heap.size w (w.alloc (.cells #[.bool false, .slice A xs.length c] 38)) := (Below.refl _ w).alloc (Nat.le_refl _) _
  have HV0 : IntR w (.agg #[.bool false, .slice A xs.length c]) ((val xs : Nat) : Int) := ⟨A, c, xs, by rw [← hxi, sg_neg, ← hs], ha, hx, by rw [← hxi, sg_abs]⟩
  have HB1 := Lib.hid hb0.drew
  have X1 := Lib.hid (Bx.new w false A xs.length c).drew
  have HV1 := Lib.hid (HV0.alloc (.cells #[.bool false, .slice A xs.length c] 38)).drew
  have HA := Lib.hid (ha.below hb0)
  have HC := Lib.hid hx
  have HOF : Hid (∀ W, Calls Tryz.prog 108 #[.int .i64 nn] W (RetR W nn)) := Lib.hid (rof2_int nn wl wu)
  have HFN : Hid (FitI nn) := Lib.hid (fit_of (small_not_big (by omega)))
  clear ha hx hs hb0 HV0 hxi hnn wiff
  go_enter Tryz.func159, Tryz.ntmps159
  go_wp2
  go_loop [4, 5] (fun u i => ∃ k : Nat, k ≤ xs.length ∧ ((k = 0 ∧ i = .int .i64 (-1)) ∨ (∃ j : Nat, k = j + 1 ∧ i = .int .i64 (j : Int))) ∧ u = .int .u64 ((val (xs.drop k) : Nat) : Int)) (fun _ i => (intOf i + 1).toNat)
  case atStart =>
    refine ⟨xs.length, Nat.le_refl _, ?_, by rw [List.drop_length]; rfl⟩
    rcases Nat.eq_zero_or_pos xs.length with h | h
    · exact .inl ⟨h, by rw [h]; rfl⟩
    · exact .inr ⟨xs.length - 1, by omega, by rw [show ((xs.length : Int) - 1) = ((xs.length - 1 : Nat) : Int) by omega]⟩
  case round =>
    obtain ⟨k, hk, hik, rfl⟩ := hrel
    rcases hik with ⟨rfl, rfl⟩ | ⟨j, rfl, rfl⟩
    · have hdr : val (xs.drop 0) = val xs := by rw [List.drop_zero]
      rw [hdr]
      clear hdr
      by_cases hin : nn = ((val xs : Nat) : Int)
      · have HIN := Lib.hid hin
        have HDE : Hid (decide (nn = ((val xs : Nat) : Int)) = true) := Lib.hid (decide_eq_true hin)
        clear hin
        go_wp2
        rw [HNN.out]
        go_region_held3 (fun W => W.cell? ⟨w.heap.size, 0, none⟩ = some (.bool false) ∧ W.cell? ⟨w.heap.size, 1, none⟩ = some (.slice A xs.length c))
          ((refine ⟨Bx.c0 (A := A) (n := xs.length) (c := c) ?_, Bx.c1 (b := false) ?_⟩ <;> (with_reducible exact Hid.out (by assumption))))
          (first
            | (go_at_call 108; (with_reducible refine (HOF.out _).mono ?_); rintro e w2 ⟨s2, A2, n2, c2, rfl, hv2, hb2⟩; have X2 := Lib.hid (X1.out.below hb2); have HB2 := Lib.hid (HB1.out.trans (hb2.mono HB1.out.size)); have HSM := Lib.hid (rsame2_int hv2 (HV1.out.keep hb2) HFN.out); rw [HDE.out] at HSM; clear hv2 hb2)
            | (go_at_call 29; (with_reducible refine HSM.out.mono ?_); rintro e w3 ⟨rfl, hb3⟩; have X3 := Lib.hid (X2.out.below hb3); have HB3 := Lib.hid (HB2.out.trans (hb3.mono HB2.out.size)); clear hb3))
        all_goals
          go_wp2
          go_ret2
          exact ⟨.inl ⟨by have := HIN.out; omega, by have := HIN.out; omega, by rw [← HIN.out]; first | done | rfl⟩, HB3.out⟩
      · have HIN := Lib.hid hin
        have HDE : Hid (decide (nn = ((val xs : Nat) : Int)) = false) := Lib.hid (decide_eq_false hin)
        clear hin
        go_wp2
        rw [HNN.out]
        go_region_held3 (fun W => W.cell? ⟨w.heap.size, 0, none⟩ = some (.bool false) ∧ W.cell? ⟨w.heap.size, 1, none⟩ = some (.slice A xs.length c))
          ((refine ⟨Bx.c0 (A := A) (n := xs.length) (c := c) ?_, Bx.c1 (b := false) ?_⟩ <;> (with_reducible exact Hid.out (by assumption))))
          (first
            | (go_at_call 108; (with_reducible refine (HOF.out _).mono ?_); rintro e w2 ⟨s2, A2, n2, c2, rfl, hv2, hb2⟩; have X2 := Lib.hid (X1.out.below hb2); have HB2 := Lib.hid (HB1.out.trans (hb2.mono HB1.out.size)); have HSM := Lib.hid (rsame2_int hv2 (HV1.out.keep hb2) HFN.out); rw [HDE.out] at HSM; clear hv2 hb2)
            | (go_at_call 29; (with_reducible refine HSM.out.mono ?_); rintro e w3 ⟨rfl, hb3⟩; have X3 := Lib.hid (X2.out.below hb3); have HB3 := Lib.hid (HB2.out.trans (hb3.mono HB2.out.size)); clear hb3))
        all_goals
          go_wp2
          go_ret2
          exact ⟨.inr ⟨fun h => HIN.out (HIF.out.2 (by omega)), rfl⟩, HB3.out⟩

    · obtain ⟨b, off, hA, hbl, hcell⟩ := HA.out.at_ (by omega : j < xs.length)
      subst hA
      have hst := val_drop_step xs j (by omega)
      have hub : val (xs.drop (j + 1)) < 4294967296 := by
        have h1 := val_len_lt (HC.out.1.drop (j + 1)) (n := 1) (by simp; omega)
        simpa using h1
      have hyb := HC.out.1.get j
      generalize xs[j]?.getD 0 = y at *
      generalize val (xs.drop (j + 1)) = V at *
      have HST := Lib.hid hst
      clear hst
      go_wp2
      go_round
      case rel =>
        refine ⟨j, by omega, ?_, by rw [HST.out]; go_num⟩
        rcases j with _ | j
        · exact .inl ⟨rfl, rfl⟩
        · exact .inr ⟨j, rfl, by go_num⟩
      case measure => simp [intOf]

set_option maxRecDepth 100000 in
set_option maxHeartbeats 2000000 in
theorem rsmall_n2 (A : Option Addr) (c : Nat) (xs : List Nat) (w : World) (ha : Rd w A xs) (hx : Can xs) (hl : xs.length ≤ 64) (hs : true = (true && decide (0 < val xs))) (hl2 : xs.length ≤ 2) :
    Calls Tryz.prog 159 #[.agg #[.bool true, .slice A xs.length c]] w fun e w' => SmallE (-((val xs : Nat) : Int)) e ∧ Below w.heap.size w w' := by
  have d1 : decide ((xs.length : Int) ≤ 2) = true := decide_eq_true (by omega)
  have d2 : decide (xs.length ≤ 2) = true := decide_eq_true (by omega)
  have hval : val xs < 18446744073709551616 := by
    have h1 := val_len_lt hx.1 (n := 2) hl2
    exact h1
  obtain ⟨wl, wu, wiff⟩ := wrap64_d (val xs) hval
  obtain ⟨nn, hnn⟩ : ∃ nn : Int, (wrap64 (IntKind.u64.wrap (-((val xs : Nat) : Int)))) = nn := ⟨_, rfl⟩
  rw [hnn] at wl wu wiff
  have HNN := Lib.hid hnn
  have HIF : Hid (nn = (-((val xs : Nat) : Int)) ↔ val xs ≤ 9223372036854775808) := Lib.hid wiff
  have hxi : sg true (val xs) = (-((val xs : Nat) : Int)) := rfl
  have hb0 : Below w.heap.size w (w.alloc (.cells #[.bool true, .slice A xs.length c] 38)) := (Below.refl _ w).alloc (Nat.le_refl _) _
  have HV0 : IntR w (.agg #[.bool true, .slice A xs.length c]) (-((val xs : Nat) : Int)) := ⟨A, c, xs, by rw [← hxi, sg_neg, ← hs], ha, hx, by rw [← hxi, sg_abs]⟩
  have HB1 := Lib.hid hb0.drew
  have X1 := Lib.hid (Bx.new w true A xs.length c).drew
  have HV1 := Lib.hid (HV0.alloc (.cells #[.bool true, .slice A xs.length c] 38)).drew
  have HA := Lib.hid (ha.below hb0)
  have HC := Lib.hid hx
  have HOF : Hid (∀ W, Calls Tryz.prog 108 #[.int .i64 nn] W (RetR W nn)) := Lib.hid (rof2_int nn wl wu)
  have HFN : Hid (FitI nn) := Lib.hid (fit_of (small_not_big (by omega)))
  clear ha hx hs hb0 HV0 hxi hnn wiff
  go_enter Tryz.func159, Tryz.ntmps159
  go_wp2
  go_loop [4, 5] (fun u i => ∃ k : Nat, k ≤ xs.length ∧ ((k = 0 ∧ i = .int .i64 (-1)) ∨ (∃ j : Nat, k = j + 1 ∧ i = .int .i64 (j : Int))) ∧ u = .int .u64 ((val (xs.drop k) : Nat) : Int)) (fun _ i => (intOf i + 1).toNat)
  case atStart =>
    refine ⟨xs.length, Nat.le_refl _, ?_, by rw [List.drop_length]; rfl⟩
    rcases Nat.eq_zero_or_pos xs.length with h | h
    · exact .inl ⟨h, by rw [h]; rfl⟩
    · exact .inr ⟨xs.length - 1, by omega, by rw [show ((xs.length : Int) - 1) = ((xs.length - 1 : Nat) : Int) by omega]⟩
  case round =>
    obtain ⟨k, hk, hik, rfl⟩ := hrel
    rcases hik with ⟨rfl, rfl⟩ | ⟨j, rfl, rfl⟩
    · have hdr : val (xs.drop 0) = val xs := by rw [List.drop_zero]
      rw [hdr]
      clear hdr
      by_cases hin : nn = (-((val xs : Nat) : Int))
      · have HIN := Lib.hid hin
        have HDE : Hid (decide (nn = (-((val xs : Nat) : Int))) = true) := Lib.hid (decide_eq_true hin)
        clear hin
        go_wp2
        rw [HNN.out]
        go_region_held3 (fun W => W.cell? ⟨w.heap.size, 0, none⟩ = some (.bool true) ∧ W.cell? ⟨w.heap.size, 1, none⟩ = some (.slice A xs.length c))
          ((refine ⟨Bx.c0 (A := A) (n := xs.length) (c := c) ?_, Bx.c1 (b := true) ?_⟩ <;> (with_reducible exact Hid.out (by assumption))))
          (first
            | (go_at_call 108; (with_reducible refine (HOF.out _).mono ?_); rintro e w2 ⟨s2, A2, n2, c2, rfl, hv2, hb2⟩; have X2 := Lib.hid (X1.out.below hb2); have HB2 := Lib.hid (HB1.out.trans (hb2.mono HB1.out.size)); have HSM := Lib.hid (rsame2_int hv2 (HV1.out.keep hb2) HFN.out); rw [HDE.out] at HSM; clear hv2 hb2)
            | (go_at_call 29; (with_reducible refine HSM.out.mono ?_); rintro e w3 ⟨rfl, hb3⟩; have X3 := Lib.hid (X2.out.below hb3); have HB3 := Lib.hid (HB2.out.trans (hb3.mono HB2.out.size)); clear hb3))
        all_goals
          go_wp2
          go_ret2
          exact ⟨.inl ⟨by have := HIN.out; omega, by have := HIN.out; omega, by rw [← HIN.out]; first | done | rfl⟩, HB3.out⟩
      · have HIN := Lib.hid hin
        have HDE : Hid (decide (nn = (-((val xs : Nat) : Int))) = false) := Lib.hid (decide_eq_false hin)
        clear hin
        go_wp2
        rw [HNN.out]
        go_region_held3 (fun W => W.cell? ⟨w.heap.size, 0, none⟩ = some (.bool true) ∧ W.cell? ⟨w.heap.size, 1, none⟩ = some (.slice A xs.length c))
          ((refine ⟨Bx.c0 (A := A) (n := xs.length) (c := c) ?_, Bx.c1 (b := true) ?_⟩ <;> (with_reducible exact Hid.out (by assumption))))
          (first
            | (go_at_call 108; (with_reducible refine (HOF.out _).mono ?_); rintro e w2 ⟨s2, A2, n2, c2, rfl, hv2, hb2⟩; have X2 := Lib.hid (X1.out.below hb2); have HB2 := Lib.hid (HB1.out.trans (hb2.mono HB1.out.size)); have HSM := Lib.hid (rsame2_int hv2 (HV1.out.keep hb2) HFN.out); rw [HDE.out] at HSM; clear hv2 hb2)
            | (go_at_call 29; (with_reducible refine HSM.out.mono ?_); rintro e w3 ⟨rfl, hb3⟩; have X3 := Lib.hid (X2.out.below hb3); have HB3 := Lib.hid (HB2.out.trans (hb3.mono HB2.out.size)); clear hb3))
        all_goals
          go_wp2
          go_ret2
          exact ⟨.inr ⟨fun h => HIN.out (HIF.out.2 (by omega)), rfl⟩, HB3.out⟩

    · obtain ⟨b, off, hA, hbl, hcell⟩ := HA.out.at_ (by omega : j < xs.length)
      subst hA
      have hst := val_drop_step xs j (by omega)
      have hub : val (xs.drop (j + 1)) < 4294967296 := by
        have h1 := val_len_lt (HC.out.1.drop (j + 1)) (n := 1) (by simp; omega)
        simpa using h1
      have hyb := HC.out.1.get j
      generalize xs[j]?.getD 0 = y at *
      generalize val (xs.drop (j + 1)) = V at *
      have HST := Lib.hid hst
      clear hst
      go_wp2
      go_round
      case rel =>
        refine ⟨j, by omega, ?_, by rw [HST.out]; go_num⟩
        rcases j with _ | j
        · exact .inl ⟨rfl, rfl⟩
        · exact .inr ⟨j, rfl, by go_num⟩
      case measure => simp [intOf]

set_option maxRecDepth 100000 in
set_option maxHeartbeats 2000000 in
theorem rsmall_p3 (A : Option Addr) (c : Nat) (xs : List Nat) (w : World) (ha : Rd w A xs) (hx : Can xs) (hl : xs.length ≤ 64) (hs : false = (false && decide (0 < val xs))) (hl2 : 2 < xs.length) :
    Calls Tryz.prog 159 #[.agg #[.bool false, .slice A xs.length c]] w fun e w' => SmallE ((val xs : Nat) : Int) e ∧ Below w.heap.size w w' := by
  have d1 : decide ((xs.length : Int) ≤ 2) = false := decide_eq_false (by omega)
  have d2 : decide (xs.length ≤ 2) = false := decide_eq_false (by omega)
  have hbig : 18446744073709551616 ≤ val xs := by
    have h1 := (can_len hx 2).1 hl2
    exact h1
  have HBG := Lib.hid hbig
  have wl : -9223372036854775808 ≤ (0 : Int) := by decide
  have wu : (0 : Int) ≤ 9223372036854775807 := by decide
  have wiff : (0 : Int) = ((val xs : Nat) : Int) ↔ False := ⟨fun h => by omega, False.elim⟩
  have HIF : Hid ((0 : Int) = ((val xs : Nat) : Int) ↔ False) := Lib.hid wiff
  have hxi : sg false (val xs) = ((val xs : Nat) : Int) := rfl
  have hb0 : Below w.heap.size w (w.alloc (.cells #[.bool false, .slice A xs.length c] 38)) := (Below.refl _ w).alloc (Nat.le_refl _) _
  have HV0 : IntR w (.agg #[.bool false, .slice A xs.length c]) ((val xs : Nat) : Int) := ⟨A, c, xs, by rw [← hxi, sg_neg, ← hs], ha, hx, by rw [← hxi, sg_abs]⟩
  have HB1 := Lib.hid hb0.drew
  have X1 := Lib.hid (Bx.new w false A xs.length c).drew
  have HV1 := Lib.hid (HV0.alloc (.cells #[.bool false, .slice A xs.length c] 38)).drew
  have HA := Lib.hid (ha.below hb0)
  have HC := Lib.hid hx
  have HOF : Hid (∀ W, Calls Tryz.prog 108 #[.int .i64 (0 : Int)] W (RetR W (0 : Int))) := Lib.hid (rof2_int 0 wl wu)
  have HFN : Hid (FitI (0 : Int)) := Lib.hid (fit_of (small_not_big (by omega)))
  clear ha hx hs hb0 HV0 hxi wiff
  go_enter Tryz.func159, Tryz.ntmps159
  go_wp2
  have hpos : 0 < xs.length := by omega
  go_loop [4, 5] (fun u i => i = .int .i64 ((xs.length : Int) - 1) ∧ u = .int .u64 0) (fun _ _ => 0)
  case atStart => exact ⟨rfl, rfl⟩
  case round =>
    obtain ⟨rfl, rfl⟩ := hrel
    have hin : ¬ ((0 : Int) = ((val xs : Nat) : Int)) := by omega
    have HIN := Lib.hid hin
    have HDE : Hid (decide ((0 : Int) = ((val xs : Nat) : Int)) = false) := Lib.hid (decide_eq_false hin)
    clear hin
    go_wp2
    go_region_held3 (fun W => W.cell? ⟨w.heap.size, 0, none⟩ = some (.bool false) ∧ W.cell? ⟨w.heap.size, 1, none⟩ = some (.slice A xs.length c))
      ((refine ⟨Bx.c0 (A := A) (n := xs.length) (c := c) ?_, Bx.c1 (b := false) ?_⟩ <;> (with_reducible exact Hid.out (by assumption))))
      (first
        | (go_at_call 108; (with_reducible refine (HOF.out _).mono ?_); rintro e w2 ⟨s2, A2, n2, c2, rfl, hv2, hb2⟩; have X2 := Lib.hid (X1.out.below hb2); have HB2 := Lib.hid (HB1.out.trans (hb2.mono HB1.out.size)); have HSM := Lib.hid (rsame2_int hv2 (HV1.out.keep hb2) HFN.out); rw [HDE.out] at HSM; clear hv2 hb2)
        | (go_at_call 29; (with_reducible refine HSM.out.mono ?_); rintro e w3 ⟨rfl, hb3⟩; have X3 := Lib.hid (X2.out.below hb3); have HB3 := Lib.hid (HB2.out.trans (hb3.mono HB2.out.size)); clear hb3))
    all_goals
      go_wp2
      go_ret2
      exact ⟨.inr ⟨fun h => by have := HBG.out; omega, rfl⟩, HB3.out⟩


set_option maxRecDepth 100000 in
set_option maxHeartbeats 2000000 in
theorem rsmall_n3 (A : Option Addr) (c : Nat) (xs : List Nat) (w : World) (ha : Rd w A xs) (hx : Can xs) (hl : xs.length ≤ 64) (hs : true = (true && decide (0 < val xs))) (hl2 : 2 < xs.length) :
    Calls Tryz.prog 159 #[.agg #[.bool true, .slice A xs.length c]] w fun e w' => SmallE (-((val xs : Nat) : Int)) e ∧ Below w.heap.size w w' := by
  have d1 : decide ((xs.length : Int) ≤ 2) = false := decide_eq_false (by omega)
  have d2 : decide (xs.length ≤ 2) = false := decide_eq_false (by omega)
  have hbig : 18446744073709551616 ≤ val xs := by
    have h1 := (can_len hx 2).1 hl2
    exact h1
  have HBG := Lib.hid hbig
  have wl : -9223372036854775808 ≤ (0 : Int) := by decide
  have wu : (0 : Int) ≤ 9223372036854775807 := by decide
  have wiff : (0 : Int) = (-((val xs : Nat) : Int)) ↔ False := ⟨fun h => by omega, False.elim⟩
  have HIF : Hid ((0 : Int) = (-((val xs : Nat) : Int)) ↔ False) := Lib.hid wiff
  have hxi : sg true (val xs) = (-((val xs : Nat) : Int)) := rfl
  have hb0 : Below w.heap.size w (w.alloc (.cells #[.bool true, .slice A xs.length c] 38)) := (Below.refl _ w).alloc (Nat.le_refl _) _
  have HV0 : IntR w (.agg #[.bool true, .slice A xs.length c]) (-((val xs : Nat) : Int)) := ⟨A, c, xs, by rw [← hxi, sg_neg, ← hs], ha, hx, by rw [← hxi, sg_abs]⟩
  have HB1 := Lib.hid hb0.drew
  have X1 := Lib.hid (Bx.new w true A xs.length c).drew
  have HV1 := Lib.hid (HV0.alloc (.cells #[.bool true, .slice A xs.length c] 38)).drew
  have HA := Lib.hid (ha.below hb0)
  have HC := Lib.hid hx
  have HOF : Hid (∀ W, Calls Tryz.prog 108 #[.int .i64 (0 : Int)] W (RetR W (0 : Int))) := Lib.hid (rof2_int 0 wl wu)
  have HFN : Hid (FitI (0 : Int)) := Lib.hid (fit_of (small_not_big (by omega)))
  clear ha hx hs hb0 HV0 hxi wiff
  go_enter Tryz.func159, Tryz.ntmps159
  go_wp2
  have hpos : 0 < xs.length := by omega
  go_loop [4, 5] (fun u i => i = .int .i64 ((xs.length : Int) - 1) ∧ u = .int .u64 0) (fun _ _ => 0)
  case atStart => exact ⟨rfl, rfl⟩
  case round =>
    obtain ⟨rfl, rfl⟩ := hrel
    have hin : ¬ ((0 : Int) = (-((val xs : Nat) : Int))) := by omega
    have HIN := Lib.hid hin
    have HDE : Hid (decide ((0 : Int) = (-((val xs : Nat) : Int))) = false) := Lib.hid (decide_eq_false hin)
    clear hin
    go_wp2
    go_region_held3 (fun W => W.cell? ⟨w.heap.size, 0, none⟩ = some (.bool true) ∧ W.cell? ⟨w.heap.size, 1, none⟩ = some (.slice A xs.length c))
      ((refine ⟨Bx.c0 (A := A) (n := xs.length) (c := c) ?_, Bx.c1 (b := true) ?_⟩ <;> (with_reducible exact Hid.out (by assumption))))
      (first
        | (go_at_call 108; (with_reducible refine (HOF.out _).mono ?_); rintro e w2 ⟨s2, A2, n2, c2, rfl, hv2, hb2⟩; have X2 := Lib.hid (X1.out.below hb2); have HB2 := Lib.hid (HB1.out.trans (hb2.mono HB1.out.size)); have HSM := Lib.hid (rsame2_int hv2 (HV1.out.keep hb2) HFN.out); rw [HDE.out] at HSM; clear hv2 hb2)
        | (go_at_call 29; (with_reducible refine HSM.out.mono ?_); rintro e w3 ⟨rfl, hb3⟩; have X3 := Lib.hid (X2.out.below hb3); have HB3 := Lib.hid (HB2.out.trans (hb3.mono HB2.out.size)); clear hb3))
    all_goals
      go_wp2
      go_ret2
      exact ⟨.inr ⟨fun h => by have := HBG.out; omega, rfl⟩, HB3.out⟩


theorem rsmall_right (s : Bool) (A : Option Addr) (c : Nat) (xs : List Nat) (w : World) (ha : Rd w A xs) (hx : Lm xs) (hr : rightB s xs = true) :
    Calls Tryz.prog 159 #[.agg #[.bool s, .slice A xs.length c]] w fun e w' => SmallE (sg s (val xs)) e ∧ Below w.heap.size w w' := by
  obtain ⟨h1, h2, h3, h4, h5⟩ := right_parts hr hx
  rw [sg_neg] at h3
  cases s with
  | false =>
    by_cases hl : xs.length ≤ 2
    · exact rsmall_p2 A c xs w ha h2 h1 h3 hl
    · exact rsmall_p3 A c xs w ha h2 h1 h3 (by omega)
  | true =>
    by_cases hl : xs.length ≤ 2
    · exact rsmall_n2 A c xs w ha h2 h1 h3 hl
    · exact rsmall_n3 A c xs w ha h2 h1 h3 (by omega)
theorem SmallE.form {x : Int} {e : Ending} (h : SmallE x e) : ∃ (k : Int) (b : Bool), e = .returned (.tuple #[.int .i64 k, .bool b]) ∧ (k, b) = (if -9223372036854775808 ≤ x ∧ x ≤ 9223372036854775807 then (x, true) else (0, false)) := by
  rcases h with ⟨h1, h2, h3⟩ | ⟨h1, h3⟩
  · exact ⟨_, _, h3, by rw [if_pos ⟨h1, h2⟩]⟩
  · exact ⟨_, _, h3, by rw [if_neg h1]⟩
/-- exact's Right, of lists that aren't too long -/
theorem eright_any (s : Bool) (A : Option Addr) (c : Nat) (xs : List Nat) (w : World) (ha : Rd w A xs) (hx : Lm xs) (hl : xs.length ≤ 1000) :
    Calls Tryz.prog 99 #[.agg #[.bool s, .slice A xs.length c]] w fun e w' => e = .returned (.bool (rightB s xs)) ∧ Below w.heap.size w w' := by
  rcases xs with _ | ⟨x, r⟩
  · cases s with
    | false =>
      rw [show rightB false [] = true from decide_eq_true ⟨by decide, rfl, by simp⟩]
      exact eright_nil_false A c w
    | true =>
      rw [show rightB true [] = false from decide_eq_false fun h => h.2.2 ⟨rfl, rfl⟩]
      exact eright_nil_true A c w
  · have hj : (x :: r).length = r.length + 1 := rfl
    generalize x :: r = xs at *
    generalize r.length = j at *
    rw [hj]
    by_cases h : 64 ≤ j
    · rw [show rightB s xs = false from decide_eq_false fun k => by have := k.1; omega]
      exact eright_long s A c j xs w ha hx hj (by omega) h
    · by_cases hz : xs[j]?.getD 0 = 0
      · rw [show rightB s xs = false from decide_eq_false fun k => (trim_last hj).1 k.2.1 hz]
        exact eright_zero s A c j xs w ha hx hj (by omega) (by omega) hz
      · rw [show rightB s xs = true from decide_eq_true ⟨by omega, (trim_last hj).2 hz, fun k => by have := k.2; omega⟩]
        exact eright_top s A c j xs w ha hx hj (by omega) (by omega) hz

end LM
end Go.Proofs.YtpaefbojilnnnaaGreatDoor
