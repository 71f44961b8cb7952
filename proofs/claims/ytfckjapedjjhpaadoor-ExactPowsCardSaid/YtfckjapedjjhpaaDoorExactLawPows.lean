/- The walk of the statement ExactPows. -/
import Derived.Test.YtfckjapedjjhpaaDoorLimbX
import Derived.Test.YtfckjapedjjhpaaDoorExactS
import Derived.Test.YtfckjapedjjhpaaDoorExactW
import Derived.LoopTactic
import Derived.Test.YtfckjapedjjhpaaDoorExactPw
namespace Go.Proofs.YtfckjapedjjhpaaDoor
open Go.RowKit
namespace LM

set_option maxHeartbeats 400000 in
theorem rof_any (n : Nat) (w : World) (hn : n < 18446744073709551616) :
    Calls Tryd.prog 46 #[.int .u64 (n : Int)] w fun e w' => (∃ v, e = .returned v ∧ NumR w' v n) ∧ Below w.heap.size w w' := by
  have e1 : (n : Int) % 4294967296 = ((n % 4294967296 : Nat) : Int) := by simp
  have e2 : (n : Int) / 4294967296 = ((n / 4294967296 : Nat) : Int) := by simp
  have l1 : n % 4294967296 < 4294967296 := Nat.mod_lt _ (by decide)
  have l2 : n / 4294967296 < 4294967296 := by omega
  have hv : val [n % 4294967296, n / 4294967296] = n := by simp [val]; omega
  generalize n % 4294967296 = lo at *
  generalize n / 4294967296 = hi at *
  have HV := Lib.hid hv
  clear hv
  have hrd : Rd (w.alloc (.cells #[.int .u32 (lo : Int), .int .u32 (hi : Int)] 51)) (some ⟨w.heap.size, 0, none⟩) [lo, hi] := by
    have h := Rd.of_blk (w := w.alloc (.cells #[.int .u32 (lo : Int), .int .u32 (hi : Int)] 51)) (g := w.heap.size) (pre := []) (xs := [lo, hi]) (post := []) (by simpa [U] using Blk.new w (U [lo, hi]))
    simpa using h
  go_enter Tryd.func46, Tryd.ntmps46
  go_wp2_with fail
  refine (rtrim_any (some ⟨w.heap.size, 0, none⟩) 2 [lo, hi] _ hrd (Lm.cons l1 (Lm.cons l2 Lm.nil)) (by simp) (fun h => by cases h)).mono ?_
  rintro e w1 ⟨⟨v, rfl, hnv⟩, hb⟩
  rw [HV.out] at hnv
  have HN := Lib.hid hnv
  have HB := Lib.hid hb
  clear hnv hb
  go_wp2
  go_ret
  exact ⟨⟨v, rfl, HN.out⟩, ((Below.refl _ _).alloc (Nat.le_refl _) _).trans (HB.out.mono (by simp))⟩

end LM
end Go.Proofs.YtfckjapedjjhpaaDoor

namespace Go.Proofs.YtfckjapedjjhpaaDoor
open Go.RowKit
namespace LM
set_option linter.unusedVariables false

theorem trim_last {xs : List Nat} {j : Nat} (hj : xs.length = j + 1) : (trim xs = xs) ↔ xs[j]?.getD 0 ≠ 0 := by
  constructor
  · intro h h0
    have h1 := trim_take_zero xs j (by omega) h0
    rw [← hj, List.take_length] at h1
    have h2 := trim_length_le (xs.take j)
    have h3 := congrArg List.length h
    rw [h1] at h3
    rw [List.length_take] at h2
    omega
  · intro h
    have h1 := trim_take_pos xs j (by omega) h
    rw [← hj, List.take_length] at h1
    exact h1

set_option maxRecDepth 100000 in
set_option maxHeartbeats 2000000 in
theorem eright_nil_false (A : Option Addr) (c : Nat) (w : World) :
    Calls Tryd.prog 15 #[.agg #[.bool false, .slice A 0 c]] w fun e w' => e = .returned (.bool true) ∧ Below w.heap.size w w' := by
  have HB := Lib.hid (show Below w.heap.size w (w.alloc (.cells #[.bool false, .slice A 0 c] 24)) from (Below.refl _ w).alloc (Nat.le_refl _) _)
  go_enter Tryd.func15, Tryd.ntmps15
  go_wp2
  go_ret
  exact ⟨rfl, HB.out⟩

set_option maxRecDepth 100000 in
set_option maxHeartbeats 2000000 in
theorem eright_nil_true (A : Option Addr) (c : Nat) (w : World) :
    Calls Tryd.prog 15 #[.agg #[.bool true, .slice A 0 c]] w fun e w' => e = .returned (.bool false) ∧ Below w.heap.size w w' := by
  have HB := Lib.hid (show Below w.heap.size w (w.alloc (.cells #[.bool true, .slice A 0 c] 24)) from (Below.refl _ w).alloc (Nat.le_refl _) _)
  go_enter Tryd.func15, Tryd.ntmps15
  go_wp2
  go_ret
  exact ⟨rfl, HB.out⟩

set_option maxRecDepth 100000 in
set_option maxHeartbeats 2000000 in
theorem eright_long (s : Bool) (A : Option Addr) (c j : Nat) (xs : List Nat) (w : World) (ha : Rd w A xs) (hx : Lm xs) (hj : xs.length = j + 1) (hl : j ≤ 1000) (h : 64 ≤ j) :
    Calls Tryd.prog 15 #[.agg #[.bool s, .slice A (j + 1) c]] w fun e w' => e = .returned (.bool false) ∧ Below w.heap.size w w' := by
  have HB := Lib.hid (show Below w.heap.size w (w.alloc (.cells #[.bool s, .slice A (j + 1) c] 24)) from (Below.refl _ w).alloc (Nat.le_refl _) _)
  have d1 : decide (((j + 1 : Nat) : Int) ≤ 64) = false := decide_eq_false (by omega)
  have d2 : decide (j + 1 ≤ 64) = false := decide_eq_false (by omega)
  have d3 : decide ((j : Int) + 1 ≤ 64) = false := decide_eq_false (by omega)
  clear ha hx
  go_enter Tryd.func15, Tryd.ntmps15
  go_wp2
  go_ret
  exact ⟨rfl, HB.out⟩

set_option maxRecDepth 100000 in
set_option maxHeartbeats 2000000 in
theorem eright_zero (s : Bool) (A : Option Addr) (c j : Nat) (xs : List Nat) (w : World) (ha : Rd w A xs) (hx : Lm xs) (hj : xs.length = j + 1) (hl : j ≤ 1000) (h : j < 64) (hz : xs[j]?.getD 0 = 0) :
    Calls Tryd.prog 15 #[.agg #[.bool s, .slice A (j + 1) c]] w fun e w' => e = .returned (.bool false) ∧ Below w.heap.size w w' := by
  have HB := Lib.hid (show Below w.heap.size w (w.alloc (.cells #[.bool s, .slice A (j + 1) c] 24)) from (Below.refl _ w).alloc (Nat.le_refl _) _)
  have d1 : decide (((j + 1 : Nat) : Int) ≤ 64) = true := decide_eq_true (by omega)
  have d2 : decide (j + 1 ≤ 64) = true := decide_eq_true (by omega)
  have d3 : decide ((j : Int) + 1 ≤ 64) = true := decide_eq_true (by omega)
  obtain ⟨b, off, rfl, hb, hcell⟩ := (ha.alloc (.cells #[.bool s, .slice A (j + 1) c] 24)).at_ (by omega : j < xs.length)
  obtain ⟨y, hy⟩ : ∃ y, xs[j]?.getD 0 = y := ⟨_, rfl⟩
  rw [hy] at hz hcell
  have hz2 : (((y : Nat) : Int) == 0) = true := by rw [hz]; rfl
  have hz3 : (((y : Nat) : Int) != 0) = false := by rw [bne, hz2]; rfl
  subst hz
  have hb2 : b < w.heap.size + 1 := by simpa using hb
  clear ha hx hy
  go_enter Tryd.func15, Tryd.ntmps15
  go_wp2
  go_ret
  exact ⟨rfl, HB.out⟩

set_option maxRecDepth 100000 in
set_option maxHeartbeats 2000000 in
theorem eright_top (s : Bool) (A : Option Addr) (c j : Nat) (xs : List Nat) (w : World) (ha : Rd w A xs) (hx : Lm xs) (hj : xs.length = j + 1) (hl : j ≤ 1000) (h : j < 64) (hz : xs[j]?.getD 0 ≠ 0) :
    Calls Tryd.prog 15 #[.agg #[.bool s, .slice A (j + 1) c]] w fun e w' => e = .returned (.bool true) ∧ Below w.heap.size w w' := by
  have HB := Lib.hid (show Below w.heap.size w (w.alloc (.cells #[.bool s, .slice A (j + 1) c] 24)) from (Below.refl _ w).alloc (Nat.le_refl _) _)
  have d1 : decide (((j + 1 : Nat) : Int) ≤ 64) = true := decide_eq_true (by omega)
  have d2 : decide (j + 1 ≤ 64) = true := decide_eq_true (by omega)
  have d3 : decide ((j : Int) + 1 ≤ 64) = true := decide_eq_true (by omega)
  obtain ⟨b, off, rfl, hb, hcell⟩ := (ha.alloc (.cells #[.bool s, .slice A (j + 1) c] 24)).at_ (by omega : j < xs.length)
  obtain ⟨y, hy⟩ : ∃ y, xs[j]?.getD 0 = y := ⟨_, rfl⟩
  rw [hy] at hz hcell
  have hz2 : (((y : Nat) : Int) == 0) = false := by rw [beq_eq_false_iff_ne]; omega
  have hz3 : (((y : Nat) : Int) != 0) = true := by rw [bne, hz2]; rfl
  clear hz
  have hb2 : b < w.heap.size + 1 := by simpa using hb
  clear ha hx hy
  go_enter Tryd.func15, Tryd.ntmps15
  go_wp2
  go_ret
  exact ⟨rfl, HB.out⟩

theorem small_len {r : List Nat} (hc : Can r) (h : val r < 18446744073709551616 * 2) : r.length ≤ 3 := by
  rcases Nat.lt_or_ge 3 r.length with h1 | h1
  · have h2 := (can_len hc 3).1 h1
    have h3 : (4294967296 : Nat) ^ 3 = 18446744073709551616 * 4294967296 := by decide
    omega
  · exact h1

set_option maxRecDepth 100000 in
set_option maxHeartbeats 2000000 in
theorem rof2_pos (m : Nat) (hm : m ≤ 9223372036854775807) (w : World) :
    Calls Tryd.prog 18 #[.int .i64 (m : Int)] w (RetR w (sg false m)) := by
  obtain ⟨hb0, x0⟩ := newc1 w
  have HB0 := Lib.hid hb0
  have X0 := Lib.hid x0
  have H1 := Lib.hid (rof_any m (w.alloc (.cells #[.bool false, .slice none 0 0] 24)) (by omega))
  have hneg : decide (0 ≤ (m : Int)) = true := decide_eq_true (by omega)
  clear hb0 x0
  go_enter Tryd.func18, Tryd.ntmps18
  go_wp2_with fail
  refine H1.out.mono ?_
  rintro e w2 ⟨⟨v, rfl, A1, c1, r1, rfl, -, h3, h4, h5⟩, hb2⟩
  have hl := small_len h4 (by omega)
  have HM := Lib.hid (rmade_num false A1 c1 r1 w2 (by omega) h3 h4)
  rw [h5] at HM
  have Z2 := Lib.hid (X0.out.below hb2)
  have HB2 := Lib.hid (HB0.out.trans (hb2.mono HB0.out.size))
  clear h3 h4 h5 hb2
  go_wp2_with fail
  refine HM.out.mono ?_
  rintro e w3 ⟨s3, A3, n3, c3, rfl, hv3, hb3⟩
  have Z3 := Lib.hid (Z2.out.below hb3)
  obtain ⟨q0, q1, z0, z1, zl⟩ := Z3.out.facts
  have HB3 := Lib.hid (HB2.out.trans (hb3.mono HB2.out.size))
  have HV3 := Lib.hid hv3
  clear hv3 hb3
  go_wp2
  obtain ⟨W4, hW4, Z, hb4, -, hv4, -, -⟩ := stored_world Z3.out HB3.out (by omega) s3 A3 n3 c3
  rw [hW4]
  have HV4 := Lib.hid (hv4 _ _ HV3.out)
  obtain ⟨c0, c1', -, -, -⟩ := Z.facts
  clear q0 q1 z0 z1 zl hW4 hv4
  refine bodyPost_ret (v := .agg #[.bool s3, .slice A3 n3 c3]) (by simp [results, Tryd.results18, go_sem, c0, c1']) rfl ?_
  exact ⟨_, _, _, _, rfl, HV4.out, hb4⟩

set_option maxRecDepth 100000 in
set_option maxHeartbeats 2000000 in
theorem rof2_neg (k : Nat) (hm : k ≤ 9223372036854775807) (w : World) :
    Calls Tryd.prog 18 #[.int .i64 (-(k : Int) - 1)] w (RetR w (sg true (k + 1))) := by
  obtain ⟨hb0, x0⟩ := newc1 w
  have HB0 := Lib.hid hb0
  have X0 := Lib.hid x0
  have H1 := Lib.hid (rof_any k (w.alloc (.cells #[.bool false, .slice none 0 0] 24)) (by omega))
  have hneg : decide (0 ≤ -(k : Int) - 1) = false := decide_eq_false (by omega)
  have hsub : -1 - (-(k : Int) - 1) = (k : Int) := by omega
  clear hb0 x0
  go_enter Tryd.func18, Tryd.ntmps18
  go_wp2_with fail
  refine H1.out.mono ?_
  rintro e w2 ⟨⟨v, rfl, A1, c1, r1, rfl, -, h3, h4, h5⟩, hb2⟩
  have hl := small_len h4 (by omega)
  have hb3 : Below w.heap.size w (w2.alloc (.cells #[.int .u32 1] 51)) := (HB0.out.trans (hb2.mono HB0.out.size)).alloc (HB0.out.trans (hb2.mono HB0.out.size)).size _
  have r1n : Rd (w2.alloc (.cells #[.int .u32 1] 51)) (some ⟨w2.heap.size, 0, none⟩) [1] := rd_new w2 [1]
  have HP := Lib.hid (rplus_any A1 (some ⟨w2.heap.size, 0, none⟩) c1 1 r1 [1] _ (h3.alloc _) r1n h4.1 (lm_of (by decide)) (by omega) (by decide))
  rw [h5, show val [1] = 1 from rfl] at HP
  have Z1 := Lib.hid ((X0.out.below hb2).alloc (.cells #[.int .u32 1] 51))
  have HB1 := Lib.hid hb3
  clear h3 h4 h5 hb2 hb3 r1n
  go_wp2_with fail
  refine HP.out.mono ?_
  rintro e w5 ⟨⟨v, rfl, A2, c2, r2, rfl, -, h3, h4, h5⟩, hb5⟩
  have hl2 := small_len h4 (by omega)
  have HM := Lib.hid (rmade_num true A2 c2 r2 w5 (by omega) h3 h4)
  rw [h5] at HM
  have Z2 := Lib.hid (Z1.out.below hb5)
  have HB2 := Lib.hid (HB1.out.trans (hb5.mono HB1.out.size))
  clear h3 h4 h5 hb5
  go_wp2_with fail
  refine HM.out.mono ?_
  rintro e w3 ⟨s3, A3, n3, c3, rfl, hv3, hb3⟩
  have Z3 := Lib.hid (Z2.out.below hb3)
  obtain ⟨q0, q1, z0, z1, zl⟩ := Z3.out.facts
  have HB3 := Lib.hid (HB2.out.trans (hb3.mono HB2.out.size))
  have HV3 := Lib.hid hv3
  clear hv3 hb3
  go_wp2
  obtain ⟨W4, hW4, Z, hb4, -, hv4, -, -⟩ := stored_world Z3.out HB3.out (by omega) s3 A3 n3 c3
  rw [hW4]
  have HV4 := Lib.hid (hv4 _ _ HV3.out)
  obtain ⟨c0, c1', -, -, -⟩ := Z.facts
  clear q0 q1 z0 z1 zl hW4 hv4
  refine bodyPost_ret (v := .agg #[.bool s3, .slice A3 n3 c3]) (by simp [results, Tryd.results18, go_sem, c0, c1']) rfl ?_
  exact ⟨_, _, _, _, rfl, HV4.out, hb4⟩

theorem rof2_int (z : Int) (h1 : -9223372036854775808 ≤ z) (h2 : z ≤ 9223372036854775807) (w : World) : Calls Tryd.prog 18 #[.int .i64 z] w (RetR w z) := by
  by_cases h : z < 0
  · obtain ⟨k, rfl⟩ : ∃ k : Nat, z = -(k : Int) - 1 := ⟨(-z - 1).toNat, by omega⟩
    have := rof2_neg k (by omega) w
    rw [show sg true (k + 1) = -(k : Int) - 1 from by simp [sg]; omega] at this
    exact this
  · obtain ⟨m, rfl⟩ : ∃ m : Nat, z = (m : Int) := ⟨z.natAbs, by omega⟩
    have := rof2_pos m (by omega) w
    rw [show sg false m = (m : Int) from rfl] at this
    exact this

theorem val_drop_step (xs : List Nat) (j : Nat) (hj : j < xs.length) : val (xs.drop j) = xs[j]?.getD 0 + 4294967296 * val (xs.drop (j + 1)) := by rw [drop_cons_get xs j hj, val]
theorem wrap64_u (V : Nat) (h : V < 18446744073709551616) : -9223372036854775808 ≤ wrap64 (V : Int) ∧ wrap64 (V : Int) ≤ 9223372036854775807 ∧ (wrap64 (V : Int) = (V : Int) ↔ V ≤ 9223372036854775807) := by
  unfold wrap64
  omega
theorem wrap64_d (V : Nat) (h : V < 18446744073709551616) : -9223372036854775808 ≤ wrap64 (IntKind.u64.wrap (-(V : Int))) ∧ wrap64 (IntKind.u64.wrap (-(V : Int))) ≤ 9223372036854775807 ∧ (wrap64 (IntKind.u64.wrap (-(V : Int))) = -(V : Int) ↔ V ≤ 9223372036854775808) := by
  rw [IntKind.wrap_u64]
  unfold wrap64
  omega

set_option maxRecDepth 100000 in
set_option maxHeartbeats 2000000 in
theorem rsmall_p2 (A : Option Addr) (c : Nat) (xs : List Nat) (w : World) (ha : Rd w A xs) (hx : Can xs) (hl : xs.length ≤ 64) (hs : false = (false && decide (0 < val xs))) (hl2 : xs.length ≤ 2) :
    Calls Tryd.prog 20 #[.agg #[.bool false, .slice A xs.length c]] w fun e w' => SmallE ((val xs : Nat) : Int) e ∧ Below w.heap.size w w' := by
  have d1 : decide ((xs.length : Int) ≤ 2) = true := decide_eq_true (by omega)
  have d2 : decide (xs.length ≤ 2) = true := decide_eq_true (by omega)
  have hval : val xs < 18446744073709551616 := by
    have h1 := val_len_lt hx.1 (n := 2) hl2
    exact h1
  obtain ⟨wl, wu, wiff⟩ := wrap64_u (val xs) hval
  obtain ⟨nn, hnn⟩ : ∃ nn : Int, (wrap64 ((val xs : Nat) : Int)) = nn := ⟨_, rfl⟩
  rw [hnn] at wl wu wiff
  have HNN := Lib.hid hnn
  have HIF : Hid (nn = ((val xs : Nat) : Int) ↔ val xs ≤ 9223372036854775807) := Lib.hid wiff
  have hxi : sg false (val xs) = ((val xs : Nat) : Int) := rfl
  have hb0 : Below w.heap.size w (w.alloc (.cells #[.bool false, .slice A xs.length c] 24)) := (Below.refl _ w).alloc (Nat.le_refl _) _
  have HV0 : IntR w (.agg #[.bool false, .slice A xs.length c]) ((val xs : Nat) : Int) := ⟨A, c, xs, by rw [← hxi, sg_neg, ← hs], ha, hx, by rw [← hxi, sg_abs]⟩
  have HB1 := Lib.hid hb0.drew
  have X1 := Lib.hid (Bx.new w false A xs.length c).drew
  have HV1 := Lib.hid (HV0.alloc (.cells #[.bool false, .slice A xs.length c] 24)).drew
  have HA := Lib.hid (ha.below hb0)
  have HC := Lib.hid hx
  have HOF : Hid (∀ W, Calls Tryd.prog 18 #[.int .i64 nn] W (RetR W nn)) := Lib.hid (rof2_int nn wl wu)
  have HFN : Hid (FitI nn) := Lib.hid (fit_of (small_not_big (by omega)))
  clear ha hx hs hb0 HV0 hxi hnn wiff
  go_enter Tryd.func20, Tryd.ntmps20
  go_wp2
  go_loop [4, 5] (fun u i => ∃ k : Nat, k ≤ xs.length ∧ ((k = 0 ∧ i = .int .i64 (-1)) ∨ (∃ j : Nat, k = j + 1 ∧ i = .int .i64 (j : Int))) ∧ u = .int .u64 ((val (xs.drop k) : Nat) : Int)) (fun _ i => (intOf i + 1).toNat)
  case atStart =>
    refine ⟨xs.length, Nat.le_refl _, ?_, by rw [List.drop_length]; rfl⟩
    rcases Nat.eq_zero_or_pos xs.length with h | h
    · exact .inl ⟨h, by rw [h]; rfl⟩
    · exact .inr ⟨xs.length - 1, by omega, by rw [show ((xs.length : Int) - 1) = ((xs.length - 1 : Nat) : Int) by omega]⟩
  case round =>
    obtain ⟨k, hk, hik, rfl⟩ := hrel
    rcases hik with ⟨rfl, rfl⟩ | ⟨j, rfl, rfl⟩
    · have hdr : val (xs.drop 0) = val xs := by rw [List.drop_zero]
      rw [hdr]
      clear hdr
      by_cases hin : nn = ((val xs : Nat) : Int)
      · have HIN := Lib.hid hin
        have HDE : Hid (decide (nn = ((val xs : Nat) : Int)) = true) := Lib.hid (decide_eq_true hin)
        clear hin
        go_wp2
        rw [HNN.out]
        go_region_held3 (fun W => W.cell? ⟨w.heap.size, 0, none⟩ = some (.bool false) ∧ W.cell? ⟨w.heap.size, 1, none⟩ = some (.slice A xs.length c))
          ((refine ⟨Bx.c0 (A := A) (n := xs.length) (c := c) ?_, Bx.c1 (b := false) ?_⟩ <;> (with_reducible exact Hid.out (by assumption))))
          (first
            | (go_at_call 18; (with_reducible refine (HOF.out _).mono ?_); rintro e w2 ⟨s2, A2, n2, c2, rfl, hv2, hb2⟩; have X2 := Lib.hid (X1.out.below hb2); have HB2 := Lib.hid (HB1.out.trans (hb2.mono HB1.out.size)); have HSM := Lib.hid (rsame2_int hv2 (HV1.out.keep hb2) HFN.out); rw [HDE.out] at HSM; clear hv2 hb2)
            | (go_at_call 27; (with_reducible refine HSM.out.mono ?_); rintro e w3 ⟨rfl, hb3⟩; have X3 := Lib.hid (X2.out.below hb3); have HB3 := Lib.hid (HB2.out.trans (hb3.mono HB2.out.size)); clear hb3))
        all_goals
          go_wp2
          go_ret2
          exact ⟨.inl ⟨by have := HIN.out; omega, by have := HIN.out; omega, by rw [← HIN.out]; first | done | rfl⟩, HB3.out⟩
      · have HIN := Lib.hid hin
        have HDE : Hid (decide (nn = ((val xs : Nat) : Int)) = false) := Lib.hid (decide_eq_false hin)
        clear hin
        go_wp2
        rw [HNN.out]
        go_region_held3 (fun W => W.cell? ⟨w.heap.size, 0, none⟩ = some (.bool false) ∧ W.cell? ⟨w.heap.size, 1, none⟩ = some (.slice A xs.length c))
          ((refine ⟨Bx.c0 (A := A) (n := xs.length) (c := c) ?_, Bx.c1 (b := false) ?_⟩ <;> (with_reducible exact Hid.out (by assumption))))
          (first
            | (go_at_call 18; (with_reducible refine (HOF.out _).mono ?_); rintro e w2 ⟨s2, A2, n2, c2, rfl, hv2, hb2⟩; have X2 := Lib.hid (X1.out.below hb2); have HB2 := Lib.hid (HB1.out.trans (hb2.mono HB1.out.size)); have HSM := Lib.hid (rsame2_int hv2 (HV1.out.keep hb2) HFN.out); rw [HDE.out] at HSM; clear hv2 hb2)
            | (go_at_call 27; (with_reducible refine HSM.out.mono ?_); rintro e w3 ⟨rfl, hb3⟩; have X3 := Lib.hid (X2.out.below hb3); have HB3 := Lib.hid (HB2.out.trans (hb3.mono HB2.out.size)); clear hb3))
        all_goals
          go_wp2
          go_ret2
          exact ⟨.inr ⟨fun h => HIN.out (HIF.out.2 (by omega)), rfl⟩, HB3.out⟩

    · obtain ⟨b, off, hA, hbl, hcell⟩ := HA.out.at_ (by omega : j < xs.length)
      subst hA
      have hst := val_drop_step xs j (by omega)
      have hub : val (xs.drop (j + 1)) < 4294967296 := by
        have h1 := val_len_lt (HC.out.1.drop (j + 1)) (n := 1) (by simp; omega)
        simpa using h1
      have hyb := HC.out.1.get j
      generalize xs[j]?.getD 0 = y at *
      generalize val (xs.drop (j + 1)) = V at *
      have HST := Lib.hid hst
      clear hst
      go_wp2
      go_round
      case rel =>
        refine ⟨j, by omega, ?_, by rw [HST.out]; go_num⟩
        rcases j with _ | j
        · exact .inl ⟨rfl, rfl⟩
        · exact .inr ⟨j, rfl, by go_num⟩
      case measure => simp [intOf]

set_option maxRecDepth 100000 in
set_option maxHeartbeats 2000000 in
theorem rsmall_n2 (A : Option Addr) (c : Nat) (xs : List Nat) (w : World) (ha : Rd w A xs) (hx : Can xs) (hl : xs.length ≤ 64) (hs : true = (true && decide (0 < val xs))) (hl2 : xs.length ≤ 2) :
    Calls Tryd.prog 20 #[.agg #[.bool true, .slice A xs.length c]] w fun e w' => SmallE (-((val xs : Nat) : Int)) e ∧ Below w.heap.size w w' := by
  have d1 : decide ((xs.length : Int) ≤ 2) = true := decide_eq_true (by omega)
  have d2 : decide (xs.length ≤ 2) = true := decide_eq_true (by omega)
  have hval : val xs < 18446744073709551616 := by
    have h1 := val_len_lt hx.1 (n := 2) hl2
    exact h1
  obtain ⟨wl, wu, wiff⟩ := wrap64_d (val xs) hval
  obtain ⟨nn, hnn⟩ : ∃ nn : Int, (wrap64 (IntKind.u64.wrap (-((val xs : Nat) : Int)))) = nn := ⟨_, rfl⟩
  rw [hnn] at wl wu wiff
  have HNN := Lib.hid hnn
  have HIF : Hid (nn = (-((val xs : Nat) : Int)) ↔ val xs ≤ 9223372036854775808) := Lib.hid wiff
  have hxi : sg true (val xs) = (-((val xs : Nat) : Int)) := rfl
  have hb0 : Below w.heap.size w (w.alloc (.cells #[.bool true, .slice A xs.length c] 24)) := (Below.refl _ w).alloc (Nat.le_refl _) _
  have HV0 : IntR w (.agg #[.bool true, .slice A xs.length c]) (-((val xs : Nat) : Int)) := ⟨A, c, xs, by rw [← hxi, sg_neg, ← hs], ha, hx, by rw [← hxi, sg_abs]⟩
  have HB1 := Lib.hid hb0.drew
  have X1 := Lib.hid (Bx.new w true A xs.length c).drew
  have HV1 := Lib.hid (HV0.alloc (.cells #[.bool true, .slice A xs.length c] 24)).drew
  have HA := Lib.hid (ha.below hb0)
  have HC := Lib.hid hx
  have HOF : Hid (∀ W, Calls Tryd.prog 18 #[.int .i64 nn] W (RetR W nn)) := Lib.hid (rof2_int nn wl wu)
  have HFN : Hid (FitI nn) := Lib.hid (fit_of (small_not_big (by omega)))
  clear ha hx hs hb0 HV0 hxi hnn wiff
  go_enter Tryd.func20, Tryd.ntmps20
  go_wp2
  go_loop [4, 5] (fun u i => ∃ k : Nat, k ≤ xs.length ∧ ((k = 0 ∧ i = .int .i64 (-1)) ∨ (∃ j : Nat, k = j + 1 ∧ i = .int .i64 (j : Int))) ∧ u = .int .u64 ((val (xs.drop k) : Nat) : Int)) (fun _ i => (intOf i + 1).toNat)
  case atStart =>
    refine ⟨xs.length, Nat.le_refl _, ?_, by rw [List.drop_length]; rfl⟩
    rcases Nat.eq_zero_or_pos xs.length with h | h
    · exact .inl ⟨h, by rw [h]; rfl⟩
    · exact .inr ⟨xs.length - 1, by omega, by rw [show ((xs.length : Int) - 1) = ((xs.length - 1 : Nat) : Int) by omega]⟩
  case round =>
    obtain ⟨k, hk, hik, rfl⟩ := hrel
    rcases hik with ⟨rfl, rfl⟩ | ⟨j, rfl, rfl⟩
    · have hdr : val (xs.drop 0) = val xs := by rw [List.drop_zero]
      rw [hdr]
      clear hdr
      by_cases hin : nn = (-((val xs : Nat) : Int))
      · have HIN := Lib.hid hin
        have HDE : Hid (decide (nn = (-((val xs : Nat) : Int))) = true) := Lib.hid (decide_eq_true hin)
        clear hin
        go_wp2
        rw [HNN.out]
        go_region_held3 (fun W => W.cell? ⟨w.heap.size, 0, none⟩ = some (.bool true) ∧ W.cell? ⟨w.heap.size, 1, none⟩ = some (.slice A xs.length c))
          ((refine ⟨Bx.c0 (A := A) (n := xs.length) (c := c) ?_, Bx.c1 (b := true) ?_⟩ <;> (with_reducible exact Hid.out (by assumption))))
          (first
            | (go_at_call 18; (with_reducible refine (HOF.out _).mono ?_); rintro e w2 ⟨s2, A2, n2, c2, rfl, hv2, hb2⟩; have X2 := Lib.hid (X1.out.below hb2); have HB2 := Lib.hid (HB1.out.trans (hb2.mono HB1.out.size)); have HSM := Lib.hid (rsame2_int hv2 (HV1.out.keep hb2) HFN.out); rw [HDE.out] at HSM; clear hv2 hb2)
            | (go_at_call 27; (with_reducible refine HSM.out.mono ?_); rintro e w3 ⟨rfl, hb3⟩; have X3 := Lib.hid (X2.out.below hb3); have HB3 := Lib.hid (HB2.out.trans (hb3.mono HB2.out.size)); clear hb3))
        all_goals
          go_wp2
          go_ret2
          exact ⟨.inl ⟨by have := HIN.out; omega, by have := HIN.out; omega, by rw [← HIN.out]; first | done | rfl⟩, HB3.out⟩
      · have HIN := Lib.hid hin
        have HDE : Hid (decide (nn = (-((val xs : Nat) : Int))) = false) := Lib.hid (decide_eq_false hin)
        clear hin
        go_wp2
        rw [HNN.out]
        go_region_held3 (fun W => W.cell? ⟨w.heap.size, 0, none⟩ = some (.bool true) ∧ W.cell? ⟨w.heap.size, 1, none⟩ = some (.slice A xs.length c))
          ((refine ⟨Bx.c0 (A := A) (n := xs.length) (c := c) ?_, Bx.c1 (b := true) ?_⟩ <;> (with_reducible exact Hid.out (by assumption))))
          (first
            | (go_at_call 18; (with_reducible refine (HOF.out _).mono ?_); rintro e w2 ⟨s2, A2, n2, c2, rfl, hv2, hb2⟩; have X2 := Lib.hid (X1.out.below hb2); have HB2 := Lib.hid (HB1.out.trans (hb2.mono HB1.out.size)); have HSM := Lib.hid (rsame2_int hv2 (HV1.out.keep hb2) HFN.out); rw [HDE.out] at HSM; clear hv2 hb2)
            | (go_at_call 27; (with_reducible refine HSM.out.mono ?_); rintro e w3 ⟨rfl, hb3⟩; have X3 := Lib.hid (X2.out.below hb3); have HB3 := Lib.hid (HB2.out.trans (hb3.mono HB2.out.size)); clear hb3))
        all_goals
          go_wp2
          go_ret2
          exact ⟨.inr ⟨fun h => HIN.out (HIF.out.2 (by omega)), rfl⟩, HB3.out⟩

    · obtain ⟨b, off, hA, hbl, hcell⟩ := HA.out.at_ (by omega : j < xs.length)
      subst hA
      have hst := val_drop_step xs j (by omega)
      have hub : val (xs.drop (j + 1)) < 4294967296 := by
        have h1 := val_len_lt (HC.out.1.drop (j + 1)) (n := 1) (by simp; omega)
        simpa using h1
      have hyb := HC.out.1.get j
      generalize xs[j]?.getD 0 = y at *
      generalize val (xs.drop (j + 1)) = V at *
      have HST := Lib.hid hst
      clear hst
      go_wp2
      go_round
      case rel =>
        refine ⟨j, by omega, ?_, by rw [HST.out]; go_num⟩
        rcases j with _ | j
        · exact .inl ⟨rfl, rfl⟩
        · exact .inr ⟨j, rfl, by go_num⟩
      case measure => simp [intOf]

set_option maxRecDepth 100000 in
set_option maxHeartbeats 2000000 in
theorem rsmall_p3 (A : Option Addr) (c : Nat) (xs : List Nat) (w : World) (ha : Rd w A xs) (hx : Can xs) (hl : xs.length ≤ 64) (hs : false = (false && decide (0 < val xs))) (hl2 : 2 < xs.length) :
    Calls Tryd.prog 20 #[.agg #[.bool false, .slice A xs.length c]] w fun e w' => SmallE ((val xs : Nat) : Int) e ∧ Below w.heap.size w w' := by
  have d1 : decide ((xs.length : Int) ≤ 2) = false := decide_eq_false (by omega)
  have d2 : decide (xs.length ≤ 2) = false := decide_eq_false (by omega)
  have hbig : 18446744073709551616 ≤ val xs := by
    have h1 := (can_len hx 2).1 hl2
    exact h1
  have HBG := Lib.hid hbig
  have wl : -9223372036854775808 ≤ (0 : Int) := by decide
  have wu : (0 : Int) ≤ 9223372036854775807 := by decide
  have wiff : (0 : Int) = ((val xs : Nat) : Int) ↔ False := ⟨fun h => by omega, False.elim⟩
  have HIF : Hid ((0 : Int) = ((val xs : Nat) : Int) ↔ False) := Lib.hid wiff
  have hxi : sg false (val xs) = ((val xs : Nat) : Int) := rfl
  have hb0 : Below w.heap.size w (w.alloc (.cells #[.bool false, .slice A xs.length c] 24)) := (Below.refl _ w).alloc (Nat.le_refl _) _
  have HV0 : IntR w (.agg #[.bool false, .slice A xs.length c]) ((val xs : Nat) : Int) := ⟨A, c, xs, by rw [← hxi, sg_neg, ← hs], ha, hx, by rw [← hxi, sg_abs]⟩
  have HB1 := Lib.hid hb0.drew
  have X1 := Lib.hid (Bx.new w false A xs.length c).drew
  have HV1 := Lib.hid (HV0.alloc (.cells #[.bool false, .slice A xs.length c] 24)).drew
  have HA := Lib.hid (ha.below hb0)
  have HC := Lib.hid hx
  have HOF : Hid (∀ W, Calls Tryd.prog 18 #[.int .i64 (0 : Int)] W (RetR W (0 : Int))) := Lib.hid (rof2_int 0 wl wu)
  have HFN : Hid (FitI (0 : Int)) := Lib.hid (fit_of (small_not_big (by omega)))
  clear ha hx hs hb0 HV0 hxi wiff
  go_enter Tryd.func20, Tryd.ntmps20
  go_wp2
  have hpos : 0 < xs.length := by omega
  go_loop [4, 5] (fun u i => i = .int .i64 ((xs.length : Int) - 1) ∧ u = .int .u64 0) (fun _ _ => 0)
  case atStart => exact ⟨rfl, rfl⟩
  case round =>
    obtain ⟨rfl, rfl⟩ := hrel
    have hin : ¬ ((0 : Int) = ((val xs : Nat) : Int)) := by omega
    have HIN := Lib.hid hin
    have HDE : Hid (decide ((0 : Int) = ((val xs : Nat) : Int)) = false) := Lib.hid (decide_eq_false hin)
    clear hin
    go_wp2
    go_region_held3 (fun W => W.cell? ⟨w.heap.size, 0, none⟩ = some (.bool false) ∧ W.cell? ⟨w.heap.size, 1, none⟩ = some (.slice A xs.length c))
      ((refine ⟨Bx.c0 (A := A) (n := xs.length) (c := c) ?_, Bx.c1 (b := false) ?_⟩ <;> (with_reducible exact Hid.out (by assumption))))
      (first
        | (go_at_call 18; (with_reducible refine (HOF.out _).mono ?_); rintro e w2 ⟨s2, A2, n2, c2, rfl, hv2, hb2⟩; have X2 := Lib.hid (X1.out.below hb2); have HB2 := Lib.hid (HB1.out.trans (hb2.mono HB1.out.size)); have HSM := Lib.hid (rsame2_int hv2 (HV1.out.keep hb2) HFN.out); rw [HDE.out] at HSM; clear hv2 hb2)
        | (go_at_call 27; (with_reducible refine HSM.out.mono ?_); rintro e w3 ⟨rfl, hb3⟩; have X3 := Lib.hid (X2.out.below hb3); have HB3 := Lib.hid (HB2.out.trans (hb3.mono HB2.out.size)); clear hb3))
    all_goals
      go_wp2
      go_ret2
      exact ⟨.inr ⟨fun h => by have := HBG.out; omega, rfl⟩, HB3.out⟩


set_option maxRecDepth 100000 in
set_option maxHeartbeats 2000000 in
theorem rsmall_n3 (A : Option Addr) (c : Nat) (xs : List Nat) (w : World) (ha : Rd w A xs) (hx : Can xs) (hl : xs.length ≤ 64) (hs : true = (true && decide (0 < val xs))) (hl2 : 2 < xs.length) :
    Calls Tryd.prog 20 #[.agg #[.bool true, .slice A xs.length c]] w fun e w' => SmallE (-((val xs : Nat) : Int)) e ∧ Below w.heap.size w w' := by
  have d1 : decide ((xs.length : Int) ≤ 2) = false := decide_eq_false (by omega)
  have d2 : decide (xs.length ≤ 2) = false := decide_eq_false (by omega)
  have hbig : 18446744073709551616 ≤ val xs := by
    have h1 := (can_len hx 2).1 hl2
    exact h1
  have HBG := Lib.hid hbig
  have wl : -9223372036854775808 ≤ (0 : Int) := by decide
  have wu : (0 : Int) ≤ 9223372036854775807 := by decide
  have wiff : (0 : Int) = (-((val xs : Nat) : Int)) ↔ False := ⟨fun h => by omega, False.elim⟩
  have HIF : Hid ((0 : Int) = (-((val xs : Nat) : Int)) ↔ False) := Lib.hid wiff
  have hxi : sg true (val xs) = (-((val xs : Nat) : Int)) := rfl
  have hb0 : Below w.heap.size w (w.alloc (.cells #[.bool true, .slice A xs.length c] 24)) := (Below.refl _ w).alloc (Nat.le_refl _) _
  have HV0 : IntR w (.agg #[.bool true, .slice A xs.length c]) (-((val xs : Nat) : Int)) := ⟨A, c, xs, by rw [← hxi, sg_neg, ← hs], ha, hx, by rw [← hxi, sg_abs]⟩
  have HB1 := Lib.hid hb0.drew
  have X1 := Lib.hid (Bx.new w true A xs.length c).drew
  have HV1 := Lib.hid (HV0.alloc (.cells #[.bool true, .slice A xs.length c] 24)).drew
  have HA := Lib.hid (ha.below hb0)
  have HC := Lib.hid hx
  have HOF : Hid (∀ W, Calls Tryd.prog 18 #[.int .i64 (0 : Int)] W (RetR W (0 : Int))) := Lib.hid (rof2_int 0 wl wu)
  have HFN : Hid (FitI (0 : Int)) := Lib.hid (fit_of (small_not_big (by omega)))
  clear ha hx hs hb0 HV0 hxi wiff
  go_enter Tryd.func20, Tryd.ntmps20
  go_wp2
  have hpos : 0 < xs.length := by omega
  go_loop [4, 5] (fun u i => i = .int .i64 ((xs.length : Int) - 1) ∧ u = .int .u64 0) (fun _ _ => 0)
  case atStart => exact ⟨rfl, rfl⟩
  case round =>
    obtain ⟨rfl, rfl⟩ := hrel
    have hin : ¬ ((0 : Int) = (-((val xs : Nat) : Int))) := by omega
    have HIN := Lib.hid hin
    have HDE : Hid (decide ((0 : Int) = (-((val xs : Nat) : Int))) = false) := Lib.hid (decide_eq_false hin)
    clear hin
    go_wp2
    go_region_held3 (fun W => W.cell? ⟨w.heap.size, 0, none⟩ = some (.bool true) ∧ W.cell? ⟨w.heap.size, 1, none⟩ = some (.slice A xs.length c))
      ((refine ⟨Bx.c0 (A := A) (n := xs.length) (c := c) ?_, Bx.c1 (b := true) ?_⟩ <;> (with_reducible exact Hid.out (by assumption))))
      (first
        | (go_at_call 18; (with_reducible refine (HOF.out _).mono ?_); rintro e w2 ⟨s2, A2, n2, c2, rfl, hv2, hb2⟩; have X2 := Lib.hid (X1.out.below hb2); have HB2 := Lib.hid (HB1.out.trans (hb2.mono HB1.out.size)); have HSM := Lib.hid (rsame2_int hv2 (HV1.out.keep hb2) HFN.out); rw [HDE.out] at HSM; clear hv2 hb2)
        | (go_at_call 27; (with_reducible refine HSM.out.mono ?_); rintro e w3 ⟨rfl, hb3⟩; have X3 := Lib.hid (X2.out.below hb3); have HB3 := Lib.hid (HB2.out.trans (hb3.mono HB2.out.size)); clear hb3))
    all_goals
      go_wp2
      go_ret2
      exact ⟨.inr ⟨fun h => by have := HBG.out; omega, rfl⟩, HB3.out⟩


theorem rsmall_right (s : Bool) (A : Option Addr) (c : Nat) (xs : List Nat) (w : World) (ha : Rd w A xs) (hx : Lm xs) (hr : rightB s xs = true) :
    Calls Tryd.prog 20 #[.agg #[.bool s, .slice A xs.length c]] w fun e w' => SmallE (sg s (val xs)) e ∧ Below w.heap.size w w' := by
  obtain ⟨h1, h2, h3, h4, h5⟩ := right_parts hr hx
  rw [sg_neg] at h3
  cases s with
  | false =>
    by_cases hl : xs.length ≤ 2
    · exact rsmall_p2 A c xs w ha h2 h1 h3 hl
    · exact rsmall_p3 A c xs w ha h2 h1 h3 (by omega)
  | true =>
    by_cases hl : xs.length ≤ 2
    · exact rsmall_n2 A c xs w ha h2 h1 h3 hl
    · exact rsmall_n3 A c xs w ha h2 h1 h3 (by omega)
theorem SmallE.form {x : Int} {e : Ending} (h : SmallE x e) : ∃ (k : Int) (b : Bool), e = .returned (.tuple #[.int .i64 k, .bool b]) ∧ (k, b) = (if -9223372036854775808 ≤ x ∧ x ≤ 9223372036854775807 then (x, true) else (0, false)) := by
  rcases h with ⟨h1, h2, h3⟩ | ⟨h1, h3⟩
  · exact ⟨_, _, h3, by rw [if_pos ⟨h1, h2⟩]⟩
  · exact ⟨_, _, h3, by rw [if_neg h1]⟩
/-- exact's Right, of lists that aren't too long -/
theorem eright_any (s : Bool) (A : Option Addr) (c : Nat) (xs : List Nat) (w : World) (ha : Rd w A xs) (hx : Lm xs) (hl : xs.length ≤ 1000) :
    Calls Tryd.prog 15 #[.agg #[.bool s, .slice A xs.length c]] w fun e w' => e = .returned (.bool (rightB s xs)) ∧ Below w.heap.size w w' := by
  rcases xs with _ | ⟨x, r⟩
  · cases s with
    | false =>
      rw [show rightB false [] = true from decide_eq_true ⟨by decide, rfl, by simp⟩]
      exact eright_nil_false A c w
    | true =>
      rw [show rightB true [] = false from decide_eq_false fun h => h.2.2 ⟨rfl, rfl⟩]
      exact eright_nil_true A c w
  · have hj : (x :: r).length = r.length + 1 := rfl
    generalize x :: r = xs at *
    generalize r.length = j at *
    rw [hj]
    by_cases h : 64 ≤ j
    · rw [show rightB s xs = false from decide_eq_false fun k => by have := k.1; omega]
      exact eright_long s A c j xs w ha hx hj (by omega) h
    · by_cases hz : xs[j]?.getD 0 = 0
      · rw [show rightB s xs = false from decide_eq_false fun k => (trim_last hj).1 k.2.1 hz]
        exact eright_zero s A c j xs w ha hx hj (by omega) (by omega) hz
      · rw [show rightB s xs = true from decide_eq_true ⟨by omega, (trim_last hj).2 hz, fun k => by have := k.2; omega⟩]
        exact eright_top s A c j xs w ha hx hj (by omega) (by omega) hz

end LM
end Go.Proofs.YtfckjapedjjhpaaDoor

namespace Go.Proofs.YtfckjapedjjhpaaDoor
open Go.RowKit
namespace LM
set_option linter.unusedVariables false

def RPowE (w : World) (o : Option Int) (e : Ending) (w' : World) : Prop := ∃ s A n c er, e = .returned (.tuple #[.agg #[.bool s, .slice A n c], .int .i64 er]) ∧
  ((o = none ∧ er = 11 ∧ IntR w' (.agg #[.bool s, .slice A n c]) 0) ∨ (∃ z, o = some z ∧ er = 0 ∧ ¬ BigI z ∧ IntR w' (.agg #[.bool s, .slice A n c]) z)) ∧ Below w.heap.size w w'
def PwR (w wx : World) (g : Nat) (p a : Int) : Prop := ∃ s8 A8 n8 c8 s9 A9 n9 c9, w.heap.size + 1 + 1 < g ∧
  Bx wx g s8 A8 n8 c8 ∧ Bx wx w.heap.size s9 A9 n9 c9 ∧ Bx wx (w.heap.size + 1 + 1) false none 0 0 ∧ IntR wx (.agg #[.bool s8, .slice A8 n8 c8]) p ∧ IntR wx (.agg #[.bool s9, .slice A9 n9 c9]) a ∧ Below w.heap.size w wx

set_option maxRecDepth 100000 in
set_option maxHeartbeats 40000000 in
theorem rpow_go (s t : Bool) (A B : Option Addr) (n c m d : Nat) (a : Int) (k : Nat) (w : World) (ha : IntR w (.agg #[.bool s, .slice A n c]) a)
    (hs : ∀ W, Below w.heap.size w W → Calls Tryd.prog 20 #[.agg #[.bool t, .slice B m d]] W fun e w' => SmallE (k : Int) e ∧ Below W.heap.size W w') (na : ¬ BigI a) (hk : k ≤ 1000) :
    Calls Tryd.prog 38 #[.agg #[.bool s, .slice A n c], .agg #[.bool t, .slice B m d]] w (RPowE w (powI k 1 a)) := by
  obtain ⟨hb0, x0, y0, z0⟩ := new3 w s t A B n c m d
  have HB0 := Lib.hid hb0
  have XS0 := Lib.hid (((Bxs.nil.cons z0).cons y0).cons x0)
  have VA0 := Lib.hid (ha.keep hb0)
  have C1 := Lib.hid (hs _ hb0)
  have NA := Lib.hid na
  have d1 : decide ((k : Int) < 0) = false := decide_eq_false (by omega)
  have d2 : decide (1000 < (k : Int)) = false := decide_eq_false (by omega)
  have d3 : decide (1000 < k) = false := decide_eq_false (by omega)
  have HOF : Hid (∀ W, Calls Tryd.prog 18 #[.int .i64 1] W (RetR W 1)) := Lib.hid (rof2_int 1 (by decide) (by decide))
  clear hb0 x0 y0 z0 ha hs na
  go_enter Tryd.func38, Tryd.ntmps38
  go_wp2_with fail
  refine C1.out.mono ?_
  rintro e w1 ⟨he1, hb1⟩
  obtain rfl := he1.inn' (by omega) (by omega)
  have XS1 := Lib.hid (XS0.out.below hb1)
  have HB1 := Lib.hid (HB0.out.trans (hb1.mono HB0.out.size))
  have VA1 := Lib.hid (VA0.out.keep hb1)
  clear he1 hb1 XS0 HB0 VA0 C1
  go_wp2_with fail
  refine (HOF.out _).mono ?_
  rintro e w2 ⟨s2, A2, n2, c2, rfl, hv2, hb2⟩
  have hgg := (XS1.out.below hb2).tl.tl.hd.lt
  have XS2 := Lib.hid ((XS1.out.below hb2).new s2 A2 n2 c2)
  have VA2 := Lib.hid ((VA1.out.keep hb2).alloc (.cells #[.bool s2, .slice A2 n2 c2] 24))
  have V2 := Lib.hid (hv2.alloc (.cells #[.bool s2, .slice A2 n2 c2] 24))
  have hbk := bel_trans (B := w.heap.size) HB1.out hb2
  have HB2 : Hid (Below w.heap.size w (w2.alloc (.cells #[.bool s2, .slice A2 n2 c2] 24))) := Lib.hid (hbk.alloc hbk.size _)
  clear hv2 hb2 hbk d1 d2 d3 XS1 HB1 VA1 HOF
  go_wp2_with fail
  go_loopg [6] k (fun kk x6 wr => x6 = .int .i64 (kk : Int) ∧ kk ≤ 1000 ∧ ∃ p a', PwR w wr w2.heap.size p a' ∧ ¬ BigI p ∧ ¬ BigI a' ∧ powI kk p a' = powI k 1 a)
  case atStart => exact ⟨rfl, hk, 1, a, ⟨_, _, _, _, _, _, _, _, hgg, XS2.out.hd, XS2.out.tl.hd, XS2.out.tl.tl.tl.hd, V2.out, VA2.out, HB2.out⟩, small_not_big (by decide), NA.out, rfl⟩
  case round =>
    obtain ⟨rfl, hkk, p, a', hst, np, na, hpow⟩ := hrel
    clear XS2 VA2 V2 HB2
    have HP := Lib.hid hpow
    have NP := Lib.hid np
    have NA' := Lib.hid na
    obtain ⟨s8, A8, n8, c8, s9, A9, n9, c9, -, hx8, hx9, hxr, hv8, hv9, hb⟩ := hst
    have HX8 := Lib.hid hx8
    have HX9 := Lib.hid hx9
    have HXR := Lib.hid hxr
    have HV8 := Lib.hid hv8
    have HV9 := Lib.hid hv9
    have HB := Lib.hid hb
    clear hpow np na hx8 hx9 hxr hv8 hv9 hb
    by_cases ho : gk % 2 = 1
    · have e1 : ((gk : Int) % 2 == 1) = true := by rw [beq_iff_eq]; omega
      have HO := Lib.hid ho
      have M1 := Lib.hid (rtimes_int HV8.out HV9.out NP.out NA'.out)
      obtain ⟨x80, x81, x82, x83, x84⟩ := HX8.out.facts
      obtain ⟨x90, x91, x92, x93, x94⟩ := HX9.out.facts
      clear ho
      go_wp2_with fail
      refine M1.out.mono ?_
      rintro e w3 ⟨s3, A3, n3, c3, rfl, hv3, hb3⟩
      have Y8 := Lib.hid (HX8.out.below hb3)
      have Y9 := Lib.hid (HX9.out.below hb3)
      have YR := Lib.hid (HXR.out.below hb3)
      have HB3 := Lib.hid (bel_trans (B := w.heap.size) HB.out hb3)
      have VA3 := Lib.hid (HV9.out.keep hb3)
      clear x80 x81 x82 x83 x84 x90 x91 x92 x93 x94 hb3
      obtain ⟨x80, x81, x82, x83, x84⟩ := Y8.out.facts
      obtain ⟨W3, hW3, Z8, hbw, -, hvw, how, -⟩ := stored_world Y8.out HB3.out (by omega) s3 A3 n3 c3
      have X93 := Lib.hid (how _ _ _ _ _ (by omega) Y9.out)
      have XR3 := Lib.hid (how _ _ _ _ _ (by omega) YR.out)
      have X83 := Lib.hid Z8
      have HBW := Lib.hid hbw
      have V93 := Lib.hid (hvw _ _ VA3.out)
      have V83 := Lib.hid (hvw _ _ hv3)
      clear hbw hvw how Z8 hv3
      by_cases hbig : BigI (p * a')
      · have HPE := Lib.hid (HP.out.symm.trans (powI_odd_big HO.out hbig))
        have NB := Lib.hid hbig
        have l0 := V83.out.parts.2.2.2.2 NB.out
        have l1 : decide (64 < (n3 : Int)) = true := decide_eq_true (by omega)
        have l2 : decide (64 < n3) = true := decide_eq_true l0
        clear l0
        clear hbig
        obtain ⟨k0, k1, k2, k3, k4⟩ := X83.out.facts
        obtain ⟨V, hV, ZR, hbV, -, hvV, -, -⟩ := stored_world XR3.out HBW.out (by omega) false none 0 0
        obtain ⟨z0, z1, z2, z3, z4⟩ := ZR.facts
        obtain ⟨j0, j1, j2, j3, j4⟩ := XR3.out.facts
        have HBV := Lib.hid hbV
        have HVV := Lib.hid hvV
        clear hbV hvV
        go_wp2
        first | rw [hV] | skip
        refine bodyPost_ret (v := .tuple #[.agg #[.bool false, .slice none 0 0], .int .i64 11]) (by simp [results, Tryd.results38, go_sem, z0, z1]) rfl ?_
        exact ⟨_, _, _, _, _, rfl, .inl ⟨HPE.out, rfl, (intV_zero _).toR⟩, HBV.out⟩
      · have NPP := Lib.hid hbig
        clear hbig
        have l1 : decide (64 < (n3 : Int)) = false := decide_eq_false fun h => NPP.out (V83.out.parts.2.2.2.1 (by omega))
        have l2 : decide (64 < n3) = false := decide_eq_false fun h => NPP.out (V83.out.parts.2.2.2.1 h)
        obtain ⟨k0, k1, k2, k3, k4⟩ := X83.out.facts
        by_cases h2 : gk / 2 = 0
        · have e2 : ((gk : Int) / 2 == 0) = true := by rw [beq_iff_eq]; omega
          have HPE := Lib.hid (HP.out.symm.trans (powI_odd_end HO.out h2 NPP.out))
          obtain ⟨V, hV, ZR, hbV, -, hvV, -, -⟩ := stored_world XR3.out HBW.out (by omega) s3 A3 n3 c3
          obtain ⟨z0, z1, z2, z3, z4⟩ := ZR.facts
          obtain ⟨j0, j1, j2, j3, j4⟩ := XR3.out.facts
          have HBV := Lib.hid hbV
          have HVV := Lib.hid hvV
          clear hbV hvV
          go_wp2
          first | rw [hV] | skip
          refine bodyPost_ret (v := .tuple #[.agg #[.bool s3, .slice A3 n3 c3], .int .i64 0]) (by simp [results, Tryd.results38, go_sem, z0, z1]) rfl ?_
          exact ⟨_, _, _, _, _, rfl, .inr ⟨_, HPE.out, rfl, NPP.out, HVV.out _ _ V83.out⟩, HBV.out⟩
        · have e2 : ((gk : Int) / 2 == 0) = false := by rw [beq_eq_false_iff_ne]; omega
          have H2 := Lib.hid h2
          have M2 := Lib.hid (rtimes_int V93.out V93.out NA'.out NA'.out)
          obtain ⟨m0, m1, m2, m3, m4⟩ := X93.out.facts
          clear h2
          go_wp2_with fail
          refine M2.out.mono ?_
          rintro e w4 ⟨s4, A4, n4, c4, rfl, hv4, hb4⟩
          have Y8 := Lib.hid (X83.out.below hb4)
          have Y9 := Lib.hid (X93.out.below hb4)
          have YR := Lib.hid (XR3.out.below hb4)
          have HB4 := Lib.hid (bel_trans (B := w.heap.size) HBW.out hb4)
          have VP4 := Lib.hid (V83.out.keep hb4)
          clear k0 k1 k2 k3 k4 m0 m1 m2 m3 m4 l1 l2 hb4
          obtain ⟨k0, k1, k2, k3, k4⟩ := Y9.out.facts
          obtain ⟨W5, hW5, Z9, hb5, -, hv5, ho5, -⟩ := stored_world Y9.out HB4.out (by omega) s4 A4 n4 c4
          have X85 := Lib.hid (ho5 _ _ _ _ _ (by omega) Y8.out)
          have XR5 := Lib.hid (ho5 _ _ _ _ _ (by omega) YR.out)
          have X95 := Lib.hid Z9
          have HB5 := Lib.hid hb5
          have VP5 := Lib.hid (hv5 _ _ VP4.out)
          have V45 := Lib.hid (hv5 _ _ hv4)
          clear hb5 hv5 ho5 Z9 hv4
          obtain ⟨m0, m1, m2, m3, m4⟩ := X95.out.facts
          by_cases hbig : BigI (a' * a')
          · have HPE := Lib.hid (HP.out.symm.trans (powI_odd_sq HO.out H2.out NPP.out hbig))
            have NB := Lib.hid hbig
            have l0 := V45.out.parts.2.2.2.2 NB.out
            have l1 : decide (64 < (n4 : Int)) = true := decide_eq_true (by omega)
            have l2 : decide (64 < n4) = true := decide_eq_true l0
            clear l0
            clear hbig
            obtain ⟨V, hV, ZR, hbV, -, hvV, -, -⟩ := stored_world XR5.out HB5.out (by omega) false none 0 0
            obtain ⟨z0, z1, z2, z3, z4⟩ := ZR.facts
            obtain ⟨j0, j1, j2, j3, j4⟩ := XR5.out.facts
            have HBV := Lib.hid hbV
            have HVV := Lib.hid hvV
            clear hbV hvV
            go_wp2
            first | rw [hV] | skip
            refine bodyPost_ret (v := .tuple #[.agg #[.bool false, .slice none 0 0], .int .i64 11]) (by simp [results, Tryd.results38, go_sem, z0, z1]) rfl ?_
            exact ⟨_, _, _, _, _, rfl, .inl ⟨HPE.out, rfl, (intV_zero _).toR⟩, HBV.out⟩
          · have HPE := Lib.hid (HP.out.symm.trans (powI_odd_go HO.out H2.out NPP.out hbig))
            have NB := Lib.hid hbig
            have l1 : decide (64 < (n4 : Int)) = false := decide_eq_false fun h => NB.out (V45.out.parts.2.2.2.1 (by omega))
            have l2 : decide (64 < n4) = false := decide_eq_false fun h => NB.out (V45.out.parts.2.2.2.1 h)
            clear hbig
            go_wp2_with fail
            go_roundg (gk / 2)
            case measure => have := H2.out; omega
            case rel => exact ⟨by first | rfl | (congr 1), by omega, (p * a'), a' * a', ⟨_, _, _, _, _, _, _, _, hgg, X85.out, X95.out, XR5.out, VP5.out, V45.out, HB5.out⟩, NPP.out, NB.out, HPE.out.symm⟩
    · have e1 : ((gk : Int) % 2 == 1) = false := by rw [beq_eq_false_iff_ne]; omega
      have HO := Lib.hid ho
      clear ho
      have l1 : decide (64 < (n8 : Int)) = false := decide_eq_false fun h => NP.out (HV8.out.parts.2.2.2.1 (by omega))
      have l2 : decide (64 < n8) = false := decide_eq_false fun h => NP.out (HV8.out.parts.2.2.2.1 h)
      obtain ⟨k0, k1, k2, k3, k4⟩ := HX8.out.facts
      by_cases h2 : gk / 2 = 0
      · have e2 : ((gk : Int) / 2 == 0) = true := by rw [beq_iff_eq]; omega
        have HPE := Lib.hid (HP.out.symm.trans (powI_even_end HO.out h2 NP.out))
        obtain ⟨V, hV, ZR, hbV, -, hvV, -, -⟩ := stored_world HXR.out HB.out (by omega) s8 A8 n8 c8
        obtain ⟨z0, z1, z2, z3, z4⟩ := ZR.facts
        obtain ⟨j0, j1, j2, j3, j4⟩ := HXR.out.facts
        have HBV := Lib.hid hbV
        have HVV := Lib.hid hvV
        clear hbV hvV
        go_wp2
        first | rw [hV] | skip
        refine bodyPost_ret (v := .tuple #[.agg #[.bool s8, .slice A8 n8 c8], .int .i64 0]) (by simp [results, Tryd.results38, go_sem, z0, z1]) rfl ?_
        exact ⟨_, _, _, _, _, rfl, .inr ⟨_, HPE.out, rfl, NP.out, HVV.out _ _ HV8.out⟩, HBV.out⟩
      · have e2 : ((gk : Int) / 2 == 0) = false := by rw [beq_eq_false_iff_ne]; omega
        have H2 := Lib.hid h2
        have M2 := Lib.hid (rtimes_int HV9.out HV9.out NA'.out NA'.out)
        obtain ⟨m0, m1, m2, m3, m4⟩ := HX9.out.facts
        clear h2
        go_wp2_with fail
        refine M2.out.mono ?_
        rintro e w4 ⟨s4, A4, n4, c4, rfl, hv4, hb4⟩
        have Y8 := Lib.hid (HX8.out.below hb4)
        have Y9 := Lib.hid (HX9.out.below hb4)
        have YR := Lib.hid (HXR.out.below hb4)
        have HB4 := Lib.hid (bel_trans (B := w.heap.size) HB.out hb4)
        have VP4 := Lib.hid (HV8.out.keep hb4)
        clear k0 k1 k2 k3 k4 m0 m1 m2 m3 m4 l1 l2 hb4
        obtain ⟨k0, k1, k2, k3, k4⟩ := Y9.out.facts
        obtain ⟨W5, hW5, Z9, hb5, -, hv5, ho5, -⟩ := stored_world Y9.out HB4.out (by omega) s4 A4 n4 c4
        have X85 := Lib.hid (ho5 _ _ _ _ _ (by omega) Y8.out)
        have XR5 := Lib.hid (ho5 _ _ _ _ _ (by omega) YR.out)
        have X95 := Lib.hid Z9
        have HB5 := Lib.hid hb5
        have VP5 := Lib.hid (hv5 _ _ VP4.out)
        have V45 := Lib.hid (hv5 _ _ hv4)
        clear hb5 hv5 ho5 Z9 hv4
        obtain ⟨m0, m1, m2, m3, m4⟩ := X95.out.facts
        by_cases hbig : BigI (a' * a')
        · have HPE := Lib.hid (HP.out.symm.trans (powI_even_sq HO.out H2.out NP.out hbig))
          have NB := Lib.hid hbig
          have l0 := V45.out.parts.2.2.2.2 NB.out
          have l1 : decide (64 < (n4 : Int)) = true := decide_eq_true (by omega)
          have l2 : decide (64 < n4) = true := decide_eq_true l0
          clear l0
          clear hbig
          obtain ⟨V, hV, ZR, hbV, -, hvV, -, -⟩ := stored_world XR5.out HB5.out (by omega) false none 0 0
          obtain ⟨z0, z1, z2, z3, z4⟩ := ZR.facts
          obtain ⟨j0, j1, j2, j3, j4⟩ := XR5.out.facts
          have HBV := Lib.hid hbV
          have HVV := Lib.hid hvV
          clear hbV hvV
          go_wp2
          first | rw [hV] | skip
          refine bodyPost_ret (v := .tuple #[.agg #[.bool false, .slice none 0 0], .int .i64 11]) (by simp [results, Tryd.results38, go_sem, z0, z1]) rfl ?_
          exact ⟨_, _, _, _, _, rfl, .inl ⟨HPE.out, rfl, (intV_zero _).toR⟩, HBV.out⟩
        · have HPE := Lib.hid (HP.out.symm.trans (powI_even_go HO.out H2.out NP.out hbig))
          have NB := Lib.hid hbig
          have l1 : decide (64 < (n4 : Int)) = false := decide_eq_false fun h => NB.out (V45.out.parts.2.2.2.1 (by omega))
          have l2 : decide (64 < n4) = false := decide_eq_false fun h => NB.out (V45.out.parts.2.2.2.1 h)
          clear hbig
          go_wp2_with fail
          go_roundg (gk / 2)
          case measure => have := H2.out; omega
          case rel => exact ⟨by first | rfl | (congr 1), by omega, p, a' * a', ⟨_, _, _, _, _, _, _, _, hgg, X85.out, X95.out, XR5.out, VP5.out, V45.out, HB5.out⟩, NP.out, NB.out, HPE.out.symm⟩

end LM
end Go.Proofs.YtfckjapedjjhpaaDoor

namespace Go.Proofs.YtfckjapedjjhpaaDoor
open Go.RowKit
namespace LM
set_option linter.unusedVariables false

set_option maxRecDepth 100000 in
set_option maxHeartbeats 4000000 in
theorem epow_bad (s t : Bool) (A B : Option Addr) (n c m d : Nat) (x : Int) (w : World) (hn : IntV w (.agg #[.bool t, .slice B m d]) x) (hx : ¬ (0 ≤ x ∧ x ≤ 1000)) :
    Calls Tryd.prog 11 #[.agg #[.bool s, .slice A n c], .agg #[.bool t, .slice B m d]] w fun e w' => e = .returned (.tuple #[.agg #[.bool false, .slice none 0 0], .int .i64 21]) ∧ Below w.heap.size w w' := by
  obtain ⟨hb0, x0, y0, z0⟩ := new3 w s t A B n c m d
  have HB0 := Lib.hid hb0
  have XS0 := Lib.hid (((Bxs.nil.cons z0).cons y0).cons x0)
  have C1 := Lib.hid (esmall_int (hn.keep hb0))
  clear hb0 x0 y0 z0 hn
  go_enter Tryd.func11, Tryd.ntmps11
  go_wp2_with fail
  refine C1.out.mono ?_
  rintro e w1 ⟨he1, hb1⟩
  have XR1 := Lib.hid (XS0.out.below hb1).tl.tl.hd
  have HB1 := Lib.hid (HB0.out.trans (hb1.mono HB0.out.size))
  obtain ⟨q0, q1, q2, q3, ql⟩ := XR1.out.facts
  clear hb1 C1
  obtain ⟨V, hV, ZR, hbV, -, -, -, -⟩ := stored_world XR1.out HB1.out (by omega) false none 0 0
  obtain ⟨z0, z1, z2, z3, z4⟩ := ZR.facts
  have HBV := Lib.hid hbV
  clear hbV
  rcases he1 with ⟨r1, r2, rfl⟩ | ⟨r1, rfl⟩
  · by_cases hx0 : x < 0
    · have d1 : decide (x < 0) = true := decide_eq_true hx0
      go_wp2
      first | rw [hV] | skip
      refine bodyPost_ret (v := .tuple #[.agg #[.bool false, .slice none 0 0], .int .i64 21]) (by simp [results, Tryd.results11, go_sem, z0, z1]) rfl ?_
      exact ⟨rfl, HBV.out⟩
    · have d1 : decide (x < 0) = false := decide_eq_false hx0
      have d2 : decide (1000 < x) = true := decide_eq_true (by omega)
      go_wp2
      first | rw [hV] | skip
      refine bodyPost_ret (v := .tuple #[.agg #[.bool false, .slice none 0 0], .int .i64 21]) (by simp [results, Tryd.results11, go_sem, z0, z1]) rfl ?_
      exact ⟨rfl, HBV.out⟩
  · clear r1
    go_wp2
    first | rw [hV] | skip
    refine bodyPost_ret (v := .tuple #[.agg #[.bool false, .slice none 0 0], .int .i64 21]) (by simp [results, Tryd.results11, go_sem, z0, z1]) rfl ?_
    exact ⟨rfl, HBV.out⟩

set_option maxRecDepth 100000 in
set_option maxHeartbeats 4000000 in
theorem rpow_bad (s t : Bool) (A B : Option Addr) (n c m d : Nat) (x : Int) (w : World) (hn : ∀ W, Below w.heap.size w W → Calls Tryd.prog 20 #[.agg #[.bool t, .slice B m d]] W fun e w' => SmallE x e ∧ Below W.heap.size W w') (hx : ¬ (0 ≤ x ∧ x ≤ 1000)) :
    Calls Tryd.prog 38 #[.agg #[.bool s, .slice A n c], .agg #[.bool t, .slice B m d]] w fun e w' => e = .returned (.tuple #[.agg #[.bool false, .slice none 0 0], .int .i64 21]) ∧ Below w.heap.size w w' := by
  obtain ⟨hb0, x0, y0, z0⟩ := new3 w s t A B n c m d
  have HB0 := Lib.hid hb0
  have XS0 := Lib.hid (((Bxs.nil.cons z0).cons y0).cons x0)
  have C1 := Lib.hid (hn _ hb0)
  clear hb0 x0 y0 z0 hn
  go_enter Tryd.func38, Tryd.ntmps38
  go_wp2_with fail
  refine C1.out.mono ?_
  rintro e w1 ⟨he1, hb1⟩
  have XR1 := Lib.hid (XS0.out.below hb1).tl.tl.hd
  have HB1 := Lib.hid (HB0.out.trans (hb1.mono HB0.out.size))
  obtain ⟨q0, q1, q2, q3, ql⟩ := XR1.out.facts
  clear hb1 C1
  obtain ⟨V, hV, ZR, hbV, -, -, -, -⟩ := stored_world XR1.out HB1.out (by omega) false none 0 0
  obtain ⟨z0, z1, z2, z3, z4⟩ := ZR.facts
  have HBV := Lib.hid hbV
  clear hbV
  rcases he1 with ⟨r1, r2, rfl⟩ | ⟨r1, rfl⟩
  · by_cases hx0 : x < 0
    · have d1 : decide (x < 0) = true := decide_eq_true hx0
      go_wp2
      first | rw [hV] | skip
      refine bodyPost_ret (v := .tuple #[.agg #[.bool false, .slice none 0 0], .int .i64 21]) (by simp [results, Tryd.results38, go_sem, z0, z1]) rfl ?_
      exact ⟨rfl, HBV.out⟩
    · have d1 : decide (x < 0) = false := decide_eq_false hx0
      have d2 : decide (1000 < x) = true := decide_eq_true (by omega)
      go_wp2
      first | rw [hV] | skip
      refine bodyPost_ret (v := .tuple #[.agg #[.bool false, .slice none 0 0], .int .i64 21]) (by simp [results, Tryd.results38, go_sem, z0, z1]) rfl ?_
      exact ⟨rfl, HBV.out⟩
  · clear r1
    go_wp2
    first | rw [hV] | skip
    refine bodyPost_ret (v := .tuple #[.agg #[.bool false, .slice none 0 0], .int .i64 21]) (by simp [results, Tryd.results38, go_sem, z0, z1]) rfl ?_
    exact ⟨rfl, HBV.out⟩

def powR (x y : Int) : Int × Int := if 0 ≤ y ∧ y ≤ 1000 then (match powI y.natAbs 1 x with | none => (0, 11) | some z => (z, 0)) else (0, 21)
theorem zero_fits : ¬ BigI 0 := small_not_big (by decide)
theorem epow_all (s t : Bool) (A B : Option Addr) (n c m d : Nat) (x y : Int) (w : World) (ha : IntV w (.agg #[.bool s, .slice A n c]) x) (hn : IntV w (.agg #[.bool t, .slice B m d]) y) (na : ¬ BigI x) :
    Calls Tryd.prog 11 #[.agg #[.bool s, .slice A n c], .agg #[.bool t, .slice B m d]] w fun e w' => ∃ s1 A1 n1 c1, e = .returned (.tuple #[.agg #[.bool s1, .slice A1 n1 c1], .int .i64 (powR x y).2]) ∧ IntV w' (.agg #[.bool s1, .slice A1 n1 c1]) (powR x y).1 ∧ Below w.heap.size w w' := by
  unfold powR
  by_cases h : 0 ≤ y ∧ y ≤ 1000
  · rw [if_pos h]
    obtain ⟨k, rfl⟩ : ∃ k : Nat, y = (k : Int) := ⟨y.natAbs, by omega⟩
    refine (epow_go s t A B n c m d x k w ha hn na (by omega)).mono ?_
    rintro e w' ⟨s1, A1, n1, c1, er, rfl, hc, hb⟩
    rw [Int.natAbs_natCast]
    rcases hc with ⟨h1, rfl, h3⟩ | ⟨z, h1, rfl, h3⟩
    · rw [h1]
      exact ⟨s1, A1, n1, c1, rfl, h3, hb⟩
    · rw [h1]
      exact ⟨s1, A1, n1, c1, rfl, h3, hb⟩
  · rw [if_neg h]
    refine (epow_bad s t A B n c m d y w hn h).mono ?_
    rintro e w' ⟨rfl, hb⟩
    exact ⟨_, _, _, _, rfl, intV_zero _, hb⟩
theorem rpow_all (s t : Bool) (A B : Option Addr) (n c m d : Nat) (x y : Int) (w : World) (ha : IntR w (.agg #[.bool s, .slice A n c]) x)
    (hn : ∀ W, Below w.heap.size w W → Calls Tryd.prog 20 #[.agg #[.bool t, .slice B m d]] W fun e w' => SmallE y e ∧ Below W.heap.size W w') (na : ¬ BigI x) :
    Calls Tryd.prog 38 #[.agg #[.bool s, .slice A n c], .agg #[.bool t, .slice B m d]] w fun e w' => ∃ s1 A1 n1 c1, e = .returned (.tuple #[.agg #[.bool s1, .slice A1 n1 c1], .int .i64 (powR x y).2]) ∧ IntR w' (.agg #[.bool s1, .slice A1 n1 c1]) (powR x y).1 ∧ ¬ BigI (powR x y).1 ∧ Below w.heap.size w w' := by
  unfold powR
  by_cases h : 0 ≤ y ∧ y ≤ 1000
  · rw [if_pos h]
    obtain ⟨k, rfl⟩ : ∃ k : Nat, y = (k : Int) := ⟨y.natAbs, by omega⟩
    refine (rpow_go s t A B n c m d x k w ha hn na (by omega)).mono ?_
    rintro e w' ⟨s1, A1, n1, c1, er, rfl, hc, hb⟩
    rw [Int.natAbs_natCast]
    rcases hc with ⟨h1, rfl, h3⟩ | ⟨z, h1, rfl, h2, h3⟩
    · rw [h1]
      exact ⟨s1, A1, n1, c1, rfl, h3, zero_fits, hb⟩
    · rw [h1]
      exact ⟨s1, A1, n1, c1, rfl, h3, h2, hb⟩
  · rw [if_neg h]
    refine (rpow_bad s t A B n c m d y w hn h).mono ?_
    rintro e w' ⟨rfl, hb⟩
    exact ⟨_, _, _, _, rfl, (intV_zero _).toR, zero_fits, hb⟩

end LM
end Go.Proofs.YtfckjapedjjhpaaDoor

namespace Go.Proofs.YtfckjapedjjhpaaDoor
open Go.RowKit
namespace LM
set_option linter.unusedVariables false

set_option maxRecDepth 10000000 in
set_option maxHeartbeats 8000000 in
theorem pows_a (s t : Bool) (A B : Option Addr) (ca cb : Nat) (xs ys : List Nat) (w : World) (ha : Rd w A xs) (hb : Rd w B ys) (hx : Lm xs) (hy : Lm ys) (hca : xs.length ≤ ca) (hcb : ys.length ≤ cb)
    (hcam : ca ≤ 9223372036854775807) (hcbm : cb ≤ 9223372036854775807) (hna : A = none → xs.length = 0 ∧ ca = 0) (hnb : B = none → ys.length = 0 ∧ cb = 0)
    (htab : Lib.TabIs Tryd.prog w "internal/strconv.uint64pow10" .u64 Lib.pow10Tab) (hrx : rightB s xs = false) :
    Calls Tryd.prog 8 #[.agg #[.bool s, .slice A xs.length ca], .agg #[.bool t, .slice B ys.length cb]] w fun e w' => e = .returned (.bool true) ∧ Below w.heap.size w w' := by
  obtain ⟨hb0, x0, y0⟩ := newp2 w s t A B xs.length ca ys.length cb
  have HB0 := Lib.hid hb0
  have XS0 := Lib.hid ((Bxs.nil.cons y0).cons x0)
  have HAL := Lib.hid (ealive_any _ (tab_below htab hb0))
  have HTAB := Lib.hid (tab_below htab hb0)
  have HA0 := Lib.hid (ha.below hb0)
  have HBB0 := Lib.hid (hb.below hb0)
  have HX := Lib.hid hx
  have HY := Lib.hid hy
  have HNA := Lib.hid hna
  have HNB := Lib.hid hnb
  have HRX := Lib.hid hrx
  clear hb0 x0 y0 ha hb hx hy hna hnb htab hrx
  go_enter Tryd.func8, Tryd.ntmps8
  go_wp2_with fail
  refine HAL.out.mono ?_
  rintro e w1 ⟨rfl, hb1⟩
  have XS1 := Lib.hid (XS0.out.below hb1)
  have HB1 := Lib.hid (HB0.out.trans (hb1.mono HB0.out.size))
  have HA1 := Lib.hid (HA0.out.below hb1)
  have HBB1 := Lib.hid (HBB0.out.below hb1)
  have R1 := Lib.hid (rright_any s A ca xs w1 HA1.out HX.out hca hcam HNA.out)
  rw [HRX.out] at R1
  have HTAB1 := Lib.hid (tab_below HTAB.out hb1)
  clear hb1
  obtain ⟨q0, q1, -, -, ql⟩ := XS1.out.hd.facts
  go_wp2_with fail
  refine R1.out.mono ?_
  rintro e w2 ⟨rfl, hb2⟩
  have HB2 := Lib.hid (HB1.out.trans (hb2.mono HB1.out.size))
  clear hb2 q0 q1 ql
  go_wp2
  go_ret
  exact ⟨rfl, HB2.out⟩

set_option maxRecDepth 10000000 in
set_option maxHeartbeats 8000000 in
theorem pows_b (s t : Bool) (A B : Option Addr) (ca cb : Nat) (xs ys : List Nat) (w : World) (ha : Rd w A xs) (hb : Rd w B ys) (hx : Lm xs) (hy : Lm ys) (hca : xs.length ≤ ca) (hcb : ys.length ≤ cb)
    (hcam : ca ≤ 9223372036854775807) (hcbm : cb ≤ 9223372036854775807) (hna : A = none → xs.length = 0 ∧ ca = 0) (hnb : B = none → ys.length = 0 ∧ cb = 0)
    (htab : Lib.TabIs Tryd.prog w "internal/strconv.uint64pow10" .u64 Lib.pow10Tab) (hrx : rightB s xs = true) (hry : rightB t ys = false) :
    Calls Tryd.prog 8 #[.agg #[.bool s, .slice A xs.length ca], .agg #[.bool t, .slice B ys.length cb]] w fun e w' => e = .returned (.bool true) ∧ Below w.heap.size w w' := by
  obtain ⟨hb0, x0, y0⟩ := newp2 w s t A B xs.length ca ys.length cb
  have HB0 := Lib.hid hb0
  have XS0 := Lib.hid ((Bxs.nil.cons y0).cons x0)
  have HAL := Lib.hid (ealive_any _ (tab_below htab hb0))
  have HTAB := Lib.hid (tab_below htab hb0)
  have HA0 := Lib.hid (ha.below hb0)
  have HBB0 := Lib.hid (hb.below hb0)
  have HX := Lib.hid hx
  have HY := Lib.hid hy
  have HNA := Lib.hid hna
  have HNB := Lib.hid hnb
  have HRX := Lib.hid hrx
  have HRY := Lib.hid hry
  clear hb0 x0 y0 ha hb hx hy hna hnb htab hrx hry
  go_enter Tryd.func8, Tryd.ntmps8
  go_wp2_with fail
  refine HAL.out.mono ?_
  rintro e w1 ⟨rfl, hb1⟩
  have XS1 := Lib.hid (XS0.out.below hb1)
  have HB1 := Lib.hid (HB0.out.trans (hb1.mono HB0.out.size))
  have HA1 := Lib.hid (HA0.out.below hb1)
  have HBB1 := Lib.hid (HBB0.out.below hb1)
  have R1 := Lib.hid (rright_any s A ca xs w1 HA1.out HX.out hca hcam HNA.out)
  rw [HRX.out] at R1
  have HTAB1 := Lib.hid (tab_below HTAB.out hb1)
  clear hb1
  obtain ⟨q0, q1, -, -, ql⟩ := XS1.out.hd.facts
  go_wp2_with fail
  refine R1.out.mono ?_
  rintro e w2 ⟨rfl, hb2⟩
  have HB2 := Lib.hid (HB1.out.trans (hb2.mono HB1.out.size))
  have XS2 := Lib.hid (XS1.out.below hb2)
  have HA2 := Lib.hid (HA1.out.below hb2)
  have HBB2 := Lib.hid (HBB1.out.below hb2)
  have R2 := Lib.hid (rright_any t B cb ys w2 HBB2.out HY.out hcb hcbm HNB.out)
  rw [HRY.out] at R2
  have HTAB2 := Lib.hid (tab_below HTAB1.out hb2)
  clear hb2 q0 q1 ql
  obtain ⟨q0, q1, -, -, ql⟩ := XS2.out.tl.hd.facts
  go_wp2_with fail
  refine R2.out.mono ?_
  rintro e w3 ⟨rfl, hb3⟩
  have HB3 := Lib.hid (HB2.out.trans (hb3.mono HB2.out.size))
  clear hb3 q0 q1 ql
  go_wp2
  go_ret
  exact ⟨rfl, HB3.out⟩

set_option maxRecDepth 10000000 in
set_option maxHeartbeats 8000000 in
theorem pows_c (s t : Bool) (A B : Option Addr) (ca cb : Nat) (xs ys : List Nat) (w : World) (ha : Rd w A xs) (hb : Rd w B ys) (hx : Lm xs) (hy : Lm ys) (hca : xs.length ≤ ca) (hcb : ys.length ≤ cb)
    (hcam : ca ≤ 9223372036854775807) (hcbm : cb ≤ 9223372036854775807) (hna : A = none → xs.length = 0 ∧ ca = 0) (hnb : B = none → ys.length = 0 ∧ cb = 0)
    (htab : Lib.TabIs Tryd.prog w "internal/strconv.uint64pow10" .u64 Lib.pow10Tab) (hrx : rightB s xs = true) (hry : rightB t ys = true) (hl : 8 < xs.length) :
    Calls Tryd.prog 8 #[.agg #[.bool s, .slice A xs.length ca], .agg #[.bool t, .slice B ys.length cb]] w fun e w' => e = .returned (.bool true) ∧ Below w.heap.size w w' := by
  have dt1 : decide (8 < (xs.length : Int)) = true := decide_eq_true (by omega)
  have dt2 : decide (8 < xs.length) = true := decide_eq_true (by omega)
  obtain ⟨hb0, x0, y0⟩ := newp2 w s t A B xs.length ca ys.length cb
  have HB0 := Lib.hid hb0
  have XS0 := Lib.hid ((Bxs.nil.cons y0).cons x0)
  have HAL := Lib.hid (ealive_any _ (tab_below htab hb0))
  have HTAB := Lib.hid (tab_below htab hb0)
  have HA0 := Lib.hid (ha.below hb0)
  have HBB0 := Lib.hid (hb.below hb0)
  have HX := Lib.hid hx
  have HY := Lib.hid hy
  have HNA := Lib.hid hna
  have HNB := Lib.hid hnb
  have HRX := Lib.hid hrx
  have HRY := Lib.hid hry
  clear hb0 x0 y0 ha hb hx hy hna hnb htab hrx hry
  go_enter Tryd.func8, Tryd.ntmps8
  go_wp2_with fail
  refine HAL.out.mono ?_
  rintro e w1 ⟨rfl, hb1⟩
  have XS1 := Lib.hid (XS0.out.below hb1)
  have HB1 := Lib.hid (HB0.out.trans (hb1.mono HB0.out.size))
  have HA1 := Lib.hid (HA0.out.below hb1)
  have HBB1 := Lib.hid (HBB0.out.below hb1)
  have R1 := Lib.hid (rright_any s A ca xs w1 HA1.out HX.out hca hcam HNA.out)
  rw [HRX.out] at R1
  have HTAB1 := Lib.hid (tab_below HTAB.out hb1)
  clear hb1
  obtain ⟨q0, q1, -, -, ql⟩ := XS1.out.hd.facts
  go_wp2_with fail
  refine R1.out.mono ?_
  rintro e w2 ⟨rfl, hb2⟩
  have HB2 := Lib.hid (HB1.out.trans (hb2.mono HB1.out.size))
  have XS2 := Lib.hid (XS1.out.below hb2)
  have HA2 := Lib.hid (HA1.out.below hb2)
  have HBB2 := Lib.hid (HBB1.out.below hb2)
  have R2 := Lib.hid (rright_any t B cb ys w2 HBB2.out HY.out hcb hcbm HNB.out)
  rw [HRY.out] at R2
  have HTAB2 := Lib.hid (tab_below HTAB1.out hb2)
  clear hb2 q0 q1 ql
  obtain ⟨q0, q1, -, -, ql⟩ := XS2.out.tl.hd.facts
  go_wp2_with fail
  refine R2.out.mono ?_
  rintro e w3 ⟨rfl, hb3⟩
  have HB3 := Lib.hid (HB2.out.trans (hb3.mono HB2.out.size))
  have XS3 := Lib.hid (XS2.out.below hb3)
  have HTAB3 := Lib.hid (tab_below HTAB2.out hb3)
  clear hb3 q0 q1 ql
  obtain ⟨q0, q1, -, -, ql⟩ := XS3.out.hd.facts
  go_wp2
  go_ret
  exact ⟨rfl, HB3.out⟩

set_option maxRecDepth 10000000 in
set_option maxHeartbeats 8000000 in
theorem pows_main (s t : Bool) (A B : Option Addr) (ca cb : Nat) (xs ys : List Nat) (w : World) (ha : Rd w A xs) (hb : Rd w B ys) (hx : Lm xs) (hy : Lm ys) (hca : xs.length ≤ ca) (hcb : ys.length ≤ cb)
    (hcam : ca ≤ 9223372036854775807) (hcbm : cb ≤ 9223372036854775807) (hna : A = none → xs.length = 0 ∧ ca = 0) (hnb : B = none → ys.length = 0 ∧ cb = 0)
    (htab : Lib.TabIs Tryd.prog w "internal/strconv.uint64pow10" .u64 Lib.pow10Tab) (hrx : rightB s xs = true) (hry : rightB t ys = true) (hl : ¬ 8 < xs.length) :
    Calls Tryd.prog 8 #[.agg #[.bool s, .slice A xs.length ca], .agg #[.bool t, .slice B ys.length cb]] w fun e w' => e = .returned (.bool true) ∧ Below w.heap.size w w' := by
  have dt1 : decide (8 < (xs.length : Int)) = false := decide_eq_false (by omega)
  have dt2 : decide (8 < xs.length) = false := decide_eq_false (by omega)
  obtain ⟨hb0, x0, y0⟩ := newp2 w s t A B xs.length ca ys.length cb
  have HB0 := Lib.hid hb0
  have XS0 := Lib.hid ((Bxs.nil.cons y0).cons x0)
  have HAL := Lib.hid (ealive_any _ (tab_below htab hb0))
  have HTAB := Lib.hid (tab_below htab hb0)
  have HA0 := Lib.hid (ha.below hb0)
  have HBB0 := Lib.hid (hb.below hb0)
  have HX := Lib.hid hx
  have HY := Lib.hid hy
  have HNA := Lib.hid hna
  have HNB := Lib.hid hnb
  have HRX := Lib.hid hrx
  have HRY := Lib.hid hry
  clear hb0 x0 y0 ha hb hx hy hna hnb htab hrx hry
  go_enter Tryd.func8, Tryd.ntmps8
  go_wp2_with fail
  refine HAL.out.mono ?_
  rintro e w1 ⟨rfl, hb1⟩
  have XS1 := Lib.hid (XS0.out.below hb1)
  have HB1 := Lib.hid (HB0.out.trans (hb1.mono HB0.out.size))
  have HA1 := Lib.hid (HA0.out.below hb1)
  have HBB1 := Lib.hid (HBB0.out.below hb1)
  have R1 := Lib.hid (rright_any s A ca xs w1 HA1.out HX.out hca hcam HNA.out)
  rw [HRX.out] at R1
  have HTAB1 := Lib.hid (tab_below HTAB.out hb1)
  clear hb1
  obtain ⟨q0, q1, -, -, ql⟩ := XS1.out.hd.facts
  go_wp2_with fail
  refine R1.out.mono ?_
  rintro e w2 ⟨rfl, hb2⟩
  have HB2 := Lib.hid (HB1.out.trans (hb2.mono HB1.out.size))
  have XS2 := Lib.hid (XS1.out.below hb2)
  have HA2 := Lib.hid (HA1.out.below hb2)
  have HBB2 := Lib.hid (HBB1.out.below hb2)
  have R2 := Lib.hid (rright_any t B cb ys w2 HBB2.out HY.out hcb hcbm HNB.out)
  rw [HRY.out] at R2
  have HTAB2 := Lib.hid (tab_below HTAB1.out hb2)
  clear hb2 q0 q1 ql
  obtain ⟨q0, q1, -, -, ql⟩ := XS2.out.tl.hd.facts
  go_wp2_with fail
  refine R2.out.mono ?_
  rintro e w3 ⟨rfl, hb3⟩
  have HB3 := Lib.hid (HB2.out.trans (hb3.mono HB2.out.size))
  have XS3 := Lib.hid (XS2.out.below hb3)
  have HTAB3 := Lib.hid (tab_below HTAB2.out hb3)
  have HSM : Hid (∀ W, Below w3.heap.size w3 W → Calls Tryd.prog 20 #[.agg #[.bool t, .slice B ys.length cb]] W fun e w' => SmallE (sg t (val ys)) e ∧ Below W.heap.size W w') := Lib.hid (fun W hW => rsmall_right t B cb ys W ((HBB2.out.below hb3).below hW) HY.out HRY.out)
  obtain ⟨hvx, nbx⟩ := intV_of HRX.out (HA2.out.below hb3) HX.out hca hcam
  obtain ⟨hvy, nby⟩ := intV_of HRY.out (HBB2.out.below hb3) HY.out hcb hcbm
  have VX3 := Lib.hid hvx
  have VY3 := Lib.hid hvy
  have NX := Lib.hid nbx
  have NY := Lib.hid nby
  clear hb3 q0 q1 ql hvx hvy nbx nby
  generalize sg s (val xs) = x at *
  generalize sg t (val ys) = y at *
  obtain ⟨q0, q1, -, -, ql⟩ := XS3.out.hd.facts
  obtain ⟨p0, p1, -, -, pl⟩ := XS3.out.tl.hd.facts
  have C4 := Lib.hid (epow_all s t A B xs.length ca ys.length cb x y w3 VX3.out VY3.out NX.out)
  obtain ⟨z, hz⟩ : ∃ z, (powR x y).1 = z := ⟨_, rfl⟩
  obtain ⟨er, her⟩ : ∃ er, (powR x y).2 = er := ⟨_, rfl⟩
  have HZ := Lib.hid hz
  have HER := Lib.hid her
  rw [hz, her] at C4
  clear hz her
  go_wp2_with fail
  refine C4.out.mono ?_
  rintro e w4 ⟨s4, A4, n4, c4, rfl, hv4, hb4⟩
  have XS4 := Lib.hid ((XS3.out.below hb4).new s4 A4 n4 c4)
  have VX4 := Lib.hid ((VX3.out.keep hb4).alloc (.cells #[.bool s4, .slice A4 n4 c4] 24))
  have VZ4 := Lib.hid (hv4.toR.alloc (.cells #[.bool s4, .slice A4 n4 c4] 24))
  have hbl : Below w3.heap.size w3 (w4.alloc (.cells #[.bool s4, .slice A4 n4 c4] 24)) := hb4.alloc hb4.size _
  have HB4 := Lib.hid (bel_trans (B := w.heap.size) HB3.out hbl)
  have C5 := Lib.hid (rpow_all s t A B xs.length ca ys.length cb x y _ VX4.out.toR (fun W hW => HSM.out W (bel_trans (B := w3.heap.size) hbl hW)) NX.out)
  rw [HZ.out, HER.out] at C5
  clear q0 q1 ql p0 p1 pl hv4 hbl
  obtain ⟨q0, q1, -, -, ql⟩ := (XS3.out.below hb4).hd.facts
  obtain ⟨p0, p1, -, -, pl⟩ := (XS3.out.below hb4).tl.hd.facts
  clear hb4
  go_wp2_with fail
  refine C5.out.mono ?_
  rintro e w5 ⟨s5, A5, n5, c5, rfl, hv5, nb5, hb5⟩
  have VZ5 := Lib.hid ((VZ4.out.keep hb5).alloc (.cells #[.bool s5, .slice A5 n5 c5] 24))
  have VW5 := Lib.hid (hv5.alloc (.cells #[.bool s5, .slice A5 n5 c5] 24))
  have hbk := bel_trans (B := w.heap.size) HB4.out hb5
  have HB5 : Hid (Below w.heap.size w (w5.alloc (.cells #[.bool s5, .slice A5 n5 c5] 24))) := Lib.hid (hbk.alloc hbk.size _)
  have D1 := Lib.hid (rsame2_yes VZ5.out VW5.out nb5)
  clear q0 q1 ql p0 p1 pl hv5 nb5 hbk
  obtain ⟨q0, q1, -, -, ql⟩ := (XS4.out.below hb5).hd.facts
  clear hb5
  have ee : (er == er) = true := beq_self_eq_true er
  go_wp2_with fail
  refine D1.out.mono ?_
  rintro e w6 ⟨rfl, hb6⟩
  have HB6 := Lib.hid (bel_trans (B := w.heap.size) HB5.out hb6)
  clear hb6 q0 q1 ql
  go_wp2
  go_ret
  exact ⟨rfl, HB6.out⟩

theorem pows_walk (s t : Bool) (A B : Option Addr) (ca cb : Nat) (xs ys : List Nat) (w : World) (ha : Rd w A xs) (hb : Rd w B ys) (hx : Lm xs) (hy : Lm ys) (hca : xs.length ≤ ca) (hcb : ys.length ≤ cb)
    (hcam : ca ≤ 9223372036854775807) (hcbm : cb ≤ 9223372036854775807) (hna : A = none → xs.length = 0 ∧ ca = 0) (hnb : B = none → ys.length = 0 ∧ cb = 0)
    (htab : Lib.TabIs Tryd.prog w "internal/strconv.uint64pow10" .u64 Lib.pow10Tab) :
    Calls Tryd.prog 8 #[.agg #[.bool s, .slice A xs.length ca], .agg #[.bool t, .slice B ys.length cb]] w fun e w' => e = .returned (.bool true) ∧ Below w.heap.size w w' := by
  by_cases r1 : rightB s xs = true
  · by_cases r2 : rightB t ys = true
    · by_cases hl : 8 < xs.length
      · exact pows_c s t A B ca cb xs ys w ha hb hx hy hca hcb hcam hcbm hna hnb htab r1 r2 hl
      · exact pows_main s t A B ca cb xs ys w ha hb hx hy hca hcb hcam hcbm hna hnb htab r1 r2 hl
    · exact pows_b s t A B ca cb xs ys w ha hb hx hy hca hcb hcam hcbm hna hnb htab r1 (by simpa using r2)
  · exact pows_a s t A B ca cb xs ys w ha hb hx hy hca hcb hcam hcbm hna hnb htab (by simpa using r1)

end LM
end Go.Proofs.YtfckjapedjjhpaaDoor
