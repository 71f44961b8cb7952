/- Walks of package limb: Of and Small. -/
import Derived.Test.YtpoojlnndgoeoaaGreatDoorExactMath
import Derived.Test.YtpoojlnndgoeoaaGreatDoorLimbA
import Derived.Handy
import Derived.Test.YtpoojlnndgoeoaaGreatDoorLimbO
import Derived.Deep.RegionHeld3
import Derived.Test.YtpoojlnndgoeoaaGreatDoorLimbDivAny
namespace Go.Proofs.YtpoojlnndgoeoaaGreatDoor
open Go.RowKit
namespace LM

set_option maxHeartbeats 400000 in
theorem signed_any (neg : Bool) (A : Option Addr) (n c : Nat) (w : World) (hn : n ≤ 9223372036854775807) :
    Calls Tryz.prog 83 #[.bool neg, .slice A n c] w fun e w' => e = .returned (.agg #[.bool (neg && decide (0 < n)), .slice A n c]) ∧ Below w.heap.size w w' := by
  cases neg with
  | false =>
    go_enter Tryz.func83, Tryz.ntmps83
    go_wp2
    go_returns
    exact ⟨by simp, (Below.refl _ _).alloc (Nat.le_refl _) _⟩
  | true =>
    rcases Nat.eq_zero_or_pos n with rfl | h
    · go_enter Tryz.func83, Tryz.ntmps83
      go_wp2
      go_returns
      exact ⟨by simp, (Below.refl _ _).alloc (Nat.le_refl _) _⟩
    · have hd : decide (0 < n) = true := decide_eq_true h
      go_enter Tryz.func83, Tryz.ntmps83
      go_wp2
      go_returns
      exact ⟨by simp [h], (Below.refl _ _).alloc (Nat.le_refl _) _⟩


/-- a call that answers a whole number in new memory -/
def RetI (w : World) (z : Int) (e : Ending) (w' : World) : Prop := ∃ A n c, e = .returned (.agg #[.bool (decide (z < 0)), .slice A n c]) ∧ IntV w' (.agg #[.bool (decide (z < 0)), .slice A n c]) z ∧ Below w.heap.size w w'

theorem signed_num (neg : Bool) (A : Option Addr) (c : Nat) (r : List Nat) (w : World) (h1 : r.length ≤ c) (h2 : c ≤ 9223372036854775807) (h3 : Rd w A r) (h4 : Can r) :
    Calls Tryz.prog 83 #[.bool neg, .slice A r.length c] w (RetI w (sg neg (val r))) :=
  (signed_any neg A r.length c w (by omega)).mono fun e w' ⟨he, hb⟩ => by
    have hs : (neg && decide (0 < r.length)) = decide (sg neg (val r) < 0) := by rw [sg_neg, decide_eq_decide.2 (can_pos h4)]
    rw [hs] at he
    exact ⟨A, _, c, he, ⟨A, c, r, rfl, h1, h2, h3.below hb, h4, (sg_abs _ _).symm⟩, hb⟩

end LM
end Go.Proofs.YtpoojlnndgoeoaaGreatDoor

namespace Go.Proofs.YtpoojlnndgoeoaaGreatDoor
open Go.RowKit
namespace LM

/-- a call that answers a whole number, or that it is too great -/
def RetE (w : World) (z : Int) (e : Ending) (w' : World) : Prop := ∃ s A n c er, e = .returned (.tuple #[.agg #[.bool s, .slice A n c], .int .i64 er]) ∧
  ((BigI z ∧ er = 11 ∧ IntV w' (.agg #[.bool s, .slice A n c]) 0) ∨ (¬ BigI z ∧ er = 0 ∧ IntV w' (.agg #[.bool s, .slice A n c]) z)) ∧ Below w.heap.size w w'

theorem ans_open {w : World} {v : Value} {er : Int} {bad : Prop} {n : Nat} (h : Ans w v er bad n) :
    ∃ A c r, v = .slice A (List.length r) c ∧ r.length ≤ c ∧ c ≤ 9223372036854775807 ∧ Rd w A r ∧ Can r ∧ ((bad ∧ er = 11 ∧ val r = 0) ∨ (¬ bad ∧ er = 0 ∧ val r = n)) := by
  rcases h with ⟨h1, h2, h3⟩ | ⟨h1, h2, A, c, r, h3, h4, h5, h6, h7, h8⟩
  · exact ⟨none, 0, [], h2, Nat.le_refl _, by decide, Rd.nil, can_nil, .inl ⟨h1, h3, rfl⟩⟩
  · exact ⟨A, c, r, h3, h4, by omega, h6, h7, .inr ⟨h1, h2, h8⟩⟩

theorem retE_mk {w w3 : World} {z zr : Int} {b : Bool} {A : Option Addr} {n c : Nat} {er : Int} (hv : IntV w3 (.agg #[.bool b, .slice A n c]) zr) (hb : Below w.heap.size w w3) (hc : (BigI z ∧ er = 11 ∧ zr = 0) ∨ (¬ BigI z ∧ er = 0 ∧ zr = z)) :
    RetE w z (.returned (.tuple #[.agg #[.bool b, .slice A n c], .int .i64 er])) w3 := by
  rcases hc with ⟨h1, h2, rfl⟩ | ⟨h1, h2, rfl⟩
  · exact ⟨b, A, n, c, er, rfl, .inl ⟨h1, h2, hv⟩, hb⟩
  · exact ⟨b, A, n, c, er, rfl, .inr ⟨h1, h2, hv⟩, hb⟩
theorem case_sg {bad : Prop} {er : Int} {v n : Nat} (s : Bool) (h : (bad ∧ er = 11 ∧ v = 0) ∨ (¬ bad ∧ er = 0 ∧ v = n)) (hb : bad ↔ BIG n) : (BigI (sg s n) ∧ er = 11 ∧ sg s v = 0) ∨ (¬ BigI (sg s n) ∧ er = 0 ∧ sg s v = sg s n) := by
  rw [bigI_sg]
  rcases h with ⟨h1, h2, rfl⟩ | ⟨h1, h2, rfl⟩
  · exact .inl ⟨hb.1 h1, h2, sg_zero s⟩
  · exact .inr ⟨fun h => h1 (hb.2 h), h2, rfl⟩

theorem sg_self {z : Int} {n : Nat} (h : n = z.natAbs) : sg (decide (z < 0)) n = z := by rw [h, sg_of]
theorem bool_other {s t : Bool} (h : ¬ s = t) : t = !s := by cases s <;> cases t <;> simp at *
set_option maxRecDepth 100000 in
set_option maxHeartbeats 1000000 in
theorem emul_any (s t : Bool) (A B : Option Addr) (ca cb : Nat) (xs ys : List Nat) (w : World) (ha : Rd w A xs) (hb : Rd w B ys) (hx : Can xs) (hy : Can ys) (hca : xs.length ≤ ca) (hcb : ys.length ≤ cb) (hcam : ca ≤ 9223372036854775807) (hcbm : cb ≤ 9223372036854775807)
    (hxl : xs.length ≤ 64) (hyl : ys.length ≤ 64) :
    Calls Tryz.prog 55 #[.agg #[.bool s, .slice A xs.length ca], .agg #[.bool t, .slice B ys.length cb]] w (RetE w (sg (s != t) (val xs * val ys))) := by
  obtain ⟨hb0, x0, y0, z0⟩ := new3 w s t A B xs.length ca ys.length cb
  have HB0 := Lib.hid hb0
  have X0 := Lib.hid x0
  have Y0 := Lib.hid y0
  have Z0 := Lib.hid z0
  have H1 := Lib.hid (mul_any A B ca cb xs ys _ (ha.below hb0) (hb.below hb0) hx.1 hy.1 hca hcb hcam hcbm)
  have NX := Lib.hid (not_big_len hx hxl)
  have NY := Lib.hid (not_big_len hy hyl)
  clear hb0 x0 y0 z0 ha hb hx hy
  go_enter Tryz.func55, Tryz.ntmps55
  go_wp2_with fail
  refine H1.out.mono ?_
  rintro e w1 ⟨v, er, rfl, hans, hb1⟩
  obtain ⟨A1, c1, r1, rfl, hr1, hc1, hrd, hcan, hcase⟩ := ans_open hans
  obtain ⟨p0, p1, -, -, -⟩ := (X0.out.below hb1).facts
  obtain ⟨t0, t1, -, -, -⟩ := (Y0.out.below hb1).facts
  have Z1 := Lib.hid (Z0.out.below hb1)
  have HB1 := Lib.hid (HB0.out.trans (hb1.mono HB0.out.size))
  have HS := Lib.hid (signed_num (s != t) A1 c1 r1 w1 hr1 hc1 hrd hcan)
  have HC := Lib.hid hcase
  clear hans hb1 hrd hcan hcase
  go_wp2_with fail
  refine HS.out.mono ?_
  rintro e w2 ⟨A2, n2, c2, rfl, hv, hb2⟩
  have Z2 := Lib.hid (Z1.out.below hb2)
  obtain ⟨q0, q1, z0, z1, zl⟩ := Z2.out.facts
  have HB2 := Lib.hid (HB1.out.trans (hb2.mono HB1.out.size))
  have HV := Lib.hid hv
  clear hv hb2 p0 p1 t0 t1
  go_wp2
  obtain ⟨W3, hW3, Z, hb3, hv3, -, -, -⟩ := stored_world Z2.out HB2.out (by omega) (decide (sg (s != t) (val r1) < 0)) A2 n2 c2
  rw [hW3]
  have HV3 := Lib.hid (hv3 _ _ HV.out)
  obtain ⟨c0, c1, -, -, -⟩ := Z.facts
  refine bodyPost_ret (v := .tuple #[.agg #[.bool (decide (sg (s != t) (val r1) < 0)), .slice A2 n2 c2], .int .i64 er]) (by simp [results, Tryz.results55, go_sem, c0, c1]) rfl ?_
  exact retE_mk HV3.out hb3 (case_sg (s != t) HC.out ⟨fun h => h.elim (fun h => (NX.out h).elim) fun h => h.elim (fun h => (NY.out h).elim) id, fun h => .inr (.inr h)⟩)

theorem emul_int {va vb : Value} {x y : Int} {w : World} (ha : IntV w va x) (hb : IntV w vb y) (hx : ¬ BigI x) (hy : ¬ BigI y) : Calls Tryz.prog 55 #[va, vb] w (RetE w (x * y)) := by
  obtain ⟨A, ca, xs, rfl, h1, h2, h3, h4, h5⟩ := ha
  obtain ⟨B, cb, ys, rfl, k1, k2, k3, k4, k5⟩ := hb
  have l1 : xs.length ≤ 64 := len_not_big h4 (by rw [h5]; exact hx)
  have l2 : ys.length ≤ 64 := len_not_big k4 (by rw [k5]; exact hy)
  have h := emul_any (decide (x < 0)) (decide (y < 0)) A B ca cb xs ys w h3 k3 h4 k4 h1 k1 h2 k2 l1 l2
  rw [h5, k5, ← abs_mul_sg] at h
  exact h

/-- what a division of whole numbers answers -/
def RetQ (w : World) (x y : Int) (e : Ending) (w' : World) : Prop := ∃ s A n c s' A' n' c' er, e = .returned (.tuple #[.agg #[.bool s, .slice A n c], .agg #[.bool s', .slice A' n' c'], .int .i64 er]) ∧
  ((y = 0 ∧ er = 12 ∧ IntV w' (.agg #[.bool s, .slice A n c]) 0 ∧ IntV w' (.agg #[.bool s', .slice A' n' c']) 0) ∨ (y ≠ 0 ∧ er = 0 ∧ IntV w' (.agg #[.bool s, .slice A n c]) (quoI x y) ∧ IntV w' (.agg #[.bool s', .slice A' n' c']) (remI x y))) ∧ Below w.heap.size w w'

theorem div_open {w : World} {x y : Nat} {e : Ending} {w' : World} (h : DivE w x y e w') (hx : ¬ BIG x) (hy : ¬ BIG y) :
    ∃ A c r A' c' r' er, e = .returned (.tuple #[.slice A (List.length r) c, .slice A' (List.length r') c', .int .i64 er]) ∧ (r.length ≤ c ∧ c ≤ 9223372036854775807 ∧ Rd w' A r ∧ Can r) ∧ (r'.length ≤ c' ∧ c' ≤ 9223372036854775807 ∧ Rd w' A' r' ∧ Can r') ∧
      ((y = 0 ∧ er = 12 ∧ val r = 0 ∧ val r' = 0) ∨ (y ≠ 0 ∧ er = 0 ∧ val r = x / y ∧ val r' = x % y)) ∧ Below w.heap.size w w' := by
  obtain ⟨q, r, er, rfl, hb, h1 | h1 | h1⟩ := h
  · exact absurd h1.1 (by rintro (h | h); exact hx h; exact hy h)
  · obtain ⟨_, _, h0, rfl, rfl, rfl⟩ := h1
    exact ⟨none, 0, [], none, 0, [], 12, rfl, ⟨Nat.le_refl _, by decide, Rd.nil, can_nil⟩, ⟨Nat.le_refl _, by decide, Rd.nil, can_nil⟩, .inl ⟨h0, rfl, rfl, rfl⟩, hb⟩
  · obtain ⟨_, _, h0, rfl, hq, hr⟩ := h1
    obtain ⟨A, c, l, rfl, a1, a2, a3, a4, a5⟩ := numW_of hq
    obtain ⟨A', c', l', rfl, b1, b2, b3, b4, b5⟩ := numW_of hr
    exact ⟨A, c, l, A', c', l', 0, rfl, ⟨a1, a2, a3, a4⟩, ⟨b1, b2, b3, b4⟩, .inr ⟨by omega, rfl, a5, b5⟩, hb⟩

theorem retQ_mk {w w5 : World} {x y : Int} {s t b b' : Bool} {A A' : Option Addr} {n c n' c' m k q r : Nat} {er : Int} (hq : IntV w5 (.agg #[.bool b, .slice A n c]) (sg (!(s == t)) q)) (hr : IntV w5 (.agg #[.bool b', .slice A' n' c']) (sg s r)) (hb : Below w.heap.size w w5)
    (hc : (k = 0 ∧ er = 12 ∧ q = 0 ∧ r = 0) ∨ (k ≠ 0 ∧ er = 0 ∧ q = m / k ∧ r = m % k)) (hs : s = decide (x < 0)) (ht : t = decide (y < 0)) (hm : m = x.natAbs) (hk : k = y.natAbs) :
    RetQ w x y (.returned (.tuple #[.agg #[.bool b, .slice A n c], .agg #[.bool b', .slice A' n' c'], .int .i64 er])) w5 := by
  refine ⟨b, A, n, c, b', A', n', c', er, rfl, ?_, hb⟩
  rcases hc with ⟨h1, h2, rfl, rfl⟩ | ⟨h1, h2, rfl, rfl⟩
  · rw [sg_zero] at hq hr
    exact .inl ⟨by omega, h2, hq, hr⟩
  · subst hs ht hm hk
    exact .inr ⟨by omega, h2, hq, hr⟩

end LM
end Go.Proofs.YtpoojlnndgoeoaaGreatDoor

namespace Go.Proofs.YtpoojlnndgoeoaaGreatDoor
open Go.RowKit
namespace LM

set_option maxHeartbeats 400000 in
theorem of_any (n : Nat) (w : World) (hn : n < 18446744073709551616) :
    Calls Tryz.prog 84 #[.int .u64 (n : Int)] w fun e w' => (∃ v, e = .returned v ∧ NumV w' v n) ∧ Below w.heap.size w w' := by
  have e1 : (n : Int) % 4294967296 = ((n % 4294967296 : Nat) : Int) := by simp
  have e2 : (n : Int) / 4294967296 = ((n / 4294967296 : Nat) : Int) := by simp
  have l1 : n % 4294967296 < 4294967296 := Nat.mod_lt _ (by decide)
  have l2 : n / 4294967296 < 4294967296 := by omega
  have hv : val [n % 4294967296, n / 4294967296] = n := by simp [val]; omega
  generalize n % 4294967296 = lo at *
  generalize n / 4294967296 = hi at *
  have HV := Lib.hid hv
  clear hv
  go_enter Tryz.func84, Tryz.ntmps84
  go_wp2_with fail
  refine (trimmed_num (N := 2) (us := [lo, hi]) (by simpa [U] using Blk.new w (U [lo, hi])) rfl (Lm.cons l1 (Lm.cons l2 Lm.nil)) (by decide)).mono ?_
  rintro e w1 ⟨⟨v, rfl, hnv⟩, rfl⟩
  rw [HV.out] at hnv
  have HN := Lib.hid hnv
  clear hnv
  go_wp2
  go_ret
  exact ⟨⟨v, rfl, HN.out⟩, (Below.refl _ _).alloc (Nat.le_refl _) _⟩

set_option maxHeartbeats 400000 in
theorem small_any (A : Option Addr) (ca : Nat) (xs : List Nat) (w : World) (ha : Rd w A xs) (hx : Lm xs) (hca : xs.length ≤ ca) (hcam : ca ≤ 9223372036854775807) :
    Calls Tryz.prog 93 #[.slice A xs.length ca] w fun e w' =>
      ((val xs < 18446744073709551616 ∧ e = .returned (.tuple #[.int .u64 ((val xs : Nat) : Int), .bool true])) ∨ (18446744073709551616 ≤ val xs ∧ e = .returned (.tuple #[.int .u64 0, .bool false]))) ∧ w = w' := by
  have H1 := Lib.hid (trimmed_any A ca xs w ha hca (by unfold maxLen; omega))
  have hta := ha.trim
  have hcx := can_trim hx
  rw [← val_trim xs]
  have hlx := trim_length_le xs
  generalize trim xs = xt at *
  clear ha
  by_cases h2 : 2 < xt.length
  · have hb := (can_len hcx 2).1 h2
    have HB : Hid (18446744073709551616 ≤ val xt) := Lib.hid hb
    clear hb
    go_enter Tryz.func93, Tryz.ntmps93
    go_wp2_with fail
    refine H1.out.mono ?_; rintro e w' ⟨rfl, rfl⟩
    go_wp2
    go_ret2
    exact ⟨.inr ⟨HB.out, rfl⟩, rfl⟩
  · have hb : val xt < 18446744073709551616 := val_len_lt hcx.1 (n := 2) (by omega)
    have l0 := hcx.1.get 0
    have l1 := hcx.1.get 1
    have hv : val xt = xt[1]?.getD 0 * 4294967296 + xt[0]?.getD 0 := by
      have e1 := val_take_succ xt 0
      have e2 := val_take_succ xt 1
      rw [List.take_of_length_le (by omega)] at e2
      rw [e2, e1]; simp [val]; omega
    have hoh := or_high l1 l0
    have k1 := fun W h => at_nat A ca xt 1 (xt[1]?.getD 0) W h (by omega) rfl
    have k0 := fun W h => at_nat A ca xt 0 (xt[0]?.getD 0) W h (by omega) rfl
    rw [hv] at hb ⊢
    generalize xt[1]?.getD 0 = y1 at *
    generalize xt[0]?.getD 0 = y0 at *
    have K1 := Lib.hid k1
    have K0 := Lib.hid k0
    have HB := Lib.hid hb
    clear hv k1 k0 hb
    go_enter Tryz.func93, Tryz.ntmps93
    go_wp2_with fail
    refine H1.out.mono ?_; rintro e w' ⟨rfl, rfl⟩
    go_wp2_with fail
    refine (K1.out _ hta).mono ?_; rintro e w' ⟨rfl, rfl⟩
    go_wp2_with fail
    refine (K0.out _ hta).mono ?_; rintro e w' ⟨rfl, rfl⟩
    go_wp2
    go_ret2
    exact ⟨.inl ⟨HB.out, rfl⟩, rfl⟩

end LM
end Go.Proofs.YtpoojlnndgoeoaaGreatDoor
