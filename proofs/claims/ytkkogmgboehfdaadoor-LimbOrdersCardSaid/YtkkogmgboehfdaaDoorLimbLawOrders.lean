/- The walk of the statement LimbOrders. -/
import Derived.Test.YtkkogmgboehfdaaDoorLimbCopy
import Derived.Test.YtkkogmgboehfdaaDoorLimbX
import Derived.Test.YtkkogmgboehfdaaDoorLimbL
import Derived.LoopTactic
namespace Go.Proofs.YtkkogmgboehfdaaDoor
open Go.RowKit
namespace LM

theorem same_can {xs ys : List Nat} (hx : Can xs) (hy : Can ys) (h : val xs = val ys) : sameB xs ys = true := by rw [can_ext hx hy h]; exact sameB_self _
theorem small_iff {r xs : List Nat} (hr : Can r) (hv : val r = val xs) : r.length ≤ 2 ↔ val xs < 18446744073709551616 := by
  have h := can_len hr 2
  have e : (4294967296 : Nat) ^ 2 = 18446744073709551616 := by decide
  rw [e, hv] at h
  omega
/-- what has been gathered behind place j -/
theorem want_step {xs : List Nat} {j : Nat} (hj : j < xs.length) (hs : val xs < 18446744073709551616) :
    val (xs.drop j) = val (xs.drop (j + 1)) * 4294967296 + xs[j]?.getD 0 ∧ val (xs.drop (j + 1)) * 4294967296 + xs[j]?.getD 0 < 18446744073709551616 := by
  have e1 : val (xs.drop j) = val (xs.drop (j + 1)) * 4294967296 + xs[j]?.getD 0 := by rw [drop_cons_get xs j hj, val]; omega
  refine ⟨e1, ?_⟩
  rw [← e1]
  have e2 := val_split xs j
  rw [Nat.min_eq_left (by omega)] at e2
  have h3 : 1 * val (xs.drop j) ≤ 4294967296 ^ j * val (xs.drop j) := Nat.mul_le_mul_right _ (Nat.pow_pos (by decide))
  omega

set_option maxRecDepth 100000 in
set_option maxHeartbeats 4000000 in
theorem orders_walk (A B : Option Addr) (ca cb : Nat) (xs ys : List Nat) (n : Nat) (w : World) (ha : Rd w A xs) (hb : Rd w B ys) (hx : Lm xs) (hy : Lm ys) (hcb : ys.length ≤ cb) (hcbm : cb ≤ 9223372036854775807) (hna : A = none → xs.length = 0 ∧ ca = 0) (hn : n < 18446744073709551616)
    (htab : Lib.TabIs Tryd.prog w "internal/strconv.uint64pow10" .u64 Lib.pow10Tab) :
    Calls Tryd.prog 4 #[.slice A xs.length ca, .slice B ys.length cb, .int .u64 (n : Int)] w fun e w' => e = .returned (.bool true) ∧ Below w.heap.size w w' := by
  have HAL := Lib.hid (alive_any w htab)
  clear htab
  by_cases h1 : 200 < xs.length
  · have hd : decide (200 < xs.length) = true := decide_eq_true h1
    go_enter Tryd.func4, Tryd.ntmps4
    go_wp2_with fail
    refine HAL.out.mono ?_
    rintro e w1 ⟨rfl, b1⟩
    go_wp2
    go_ret
    exact ⟨rfl, b1⟩
  by_cases h2 : 200 < ys.length
  · have hd : decide (200 < xs.length) = false := decide_eq_false h1
    have hd2 : decide (200 < ys.length) = true := decide_eq_true h2
    go_enter Tryd.func4, Tryd.ntmps4
    go_wp2_with fail
    refine HAL.out.mono ?_
    rintro e w1 ⟨rfl, b1⟩
    go_wp2
    go_ret
    exact ⟨rfl, b1⟩
  have hd : decide (200 < xs.length) = false := decide_eq_false h1
  have hd2 : decide (200 < ys.length) = false := decide_eq_false h2
  have hlx : xs.length ≤ 200 := by omega
  have hly : ys.length ≤ 200 := by omega
  have HNA := Lib.hid hna
  clear hna h1 h2
  go_enter Tryd.func4, Tryd.ntmps4
  go_wp2_with fail
  refine HAL.out.mono ?_
  rintro e w1 ⟨rfl, b1⟩
  have ha1 := ha.below b1
  have hb1 := hb.below b1
  clear ha hb
  go_wp2_with (at_builtin; refine wp_copy rfl _ _ rfl w1 A ca xs ha1 (by omega) HNA.out rfl rfl ?_; intro g1 k1 w2 p1 p2 p3 p4 p5 p6)
  have B2 : Below w.heap.size w w2 := b1.trans (p6.mono b1.size)
  have ha2 := ha1.below p6
  have hb2 := hb1.below p6
  clear ha1 hb1 p6 b1
  refine (small_any (some ⟨g1, 0, none⟩) k1 xs w2 p5 hx p1 p2).mono ?_
  rintro e w3 ⟨hsm, rfl⟩
  by_cases hs : val xs < 18446744073709551616
  · rcases hsm with ⟨_, rfl⟩ | ⟨hbad, _⟩
    case inr => omega
    have HS := Lib.hid hs
    clear hs
    go_wp2_with fail
    refine (rtrim_any A ca xs w2 ha2 hx (by omega) HNA.out).mono ?_
    rintro e w4 ⟨⟨v5, rfl, A5, k5, fs, rfl, f1, f2, f3, f4⟩, b4⟩
    have hfl : decide ((fs.length : Int) ≤ 2) = true := decide_eq_true (by have := (small_iff f3 f4).2 HS.out; omega)
    have F4 := Lib.hid f4
    clear f4
    have B4 := B2.trans (b4.mono B2.size)
    have ha4 := ha2.below b4
    have hb4 := hb2.below b4
    have hx4 := p5.below b4
    clear ha2 hb2 p5 b4
    go_wp2_with fail
    go_loop [11, 12] (fun v i => ∃ j : Nat, j ≤ xs.length ∧ i = .int .i64 ((j : Int) - 1) ∧ v = .int .u64 ((val (xs.drop j) : Nat) : Int)) (fun _ i => (intOf i + 1).toNat)
    case atStart => exact ⟨xs.length, Nat.le_refl _, rfl, by rw [List.drop_length]; rfl⟩
    case round =>
    obtain ⟨j, hj, rfl, rfl⟩ := hrel
    rcases j with _ | m
    · rw [List.drop_zero]
      go_wp2_with fail
      refine (of_any n w4 hn).mono ?_
      rintro e w5 ⟨⟨vo, rfl, A6, k6, os, rfl, o1, o2, o3, o4, o5⟩, b5⟩
      have O5 := Lib.hid o5
      have hol : os.length ≤ 2 := (small_iff (xs := os) o4 rfl).2 (by rw [o5]; exact hn)
      clear o5
      have B5 := B4.trans (b5.mono B4.size)
      go_wp2_with fail
      have sm2 := small_any A6 k6 os w5 o3 o4.1 o1 (by omega)
      rw [O5.out] at sm2
      refine sm2.mono ?_
      rintro e w6 ⟨hsm2, rfl⟩
      rcases hsm2 with ⟨_, rfl⟩ | ⟨hbad, _⟩
      case inr => omega
      clear sm2 o3
      have ha5 := ha4.below b5
      have hb5 := hb4.below b5
      have hx5 := hx4.below b5
      clear ha4 hb4 hx4 b5
      go_wp2_with fail
      refine (trimUp_any (some ⟨g1, 0, none⟩) k1 xs w5 hx5 hx p1 p2 (by omega)).mono ?_
      rintro e w6 ⟨ts, rfl, t1, t2, t3, t4, b6⟩
      have T3 := Lib.hid t3
      have htr : Rd w6 (some ⟨w5.heap.size, 0, none⟩) ts := Rd.of_blk (pre := []) (post := []) (by simpa using t1)
      have B6 := B5.trans (b6.mono B5.size)
      have ha6 := ha5.below b6
      have hb6 := hb5.below b6
      have hx6 := hx5.below b6
      clear ha5 hb5 hx5 b6 t3
      go_wp2_with fail
      refine (rtrim_any A ca xs w6 ha6 hx (by omega) HNA.out).mono ?_
      rintro e w7 ⟨⟨v7, rfl, A7, k7, us, rfl, u1, u2, u3, u4⟩, b7⟩
      have B7 := B6.trans (b7.mono B6.size)
      have ha7 := ha6.below b7
      have hb7 := hb6.below b7
      have hx7 := hx6.below b7
      have sm := same_any (some ⟨w5.heap.size, 0, none⟩) A7 ts.length k7 ts us w7 (htr.below b7) u2 (by omega)
      rw [same_can t2 u3 (by rw [T3.out, u4])] at sm
      have SM := Lib.hid sm
      clear sm ha6 hb6 hx6 b7 u4
      go_wp2_with fail
      refine SM.out.mono ?_
      rintro e w8 ⟨rfl, b8⟩
      have B8 := B7.trans (b8.mono B7.size)
      have ha8 := ha7.below b8
      have hb8 := hb7.below b8
      have hx8 := hx7.below b8
      clear ha7 hb7 hx7 b8
      go_wp2_with fail
      refine (cmp_any (some ⟨g1, 0, none⟩) B k1 cb xs ys w8 hx8 hb8 hx hy p1 hcb p2 hcbm (by omega)).mono ?_
      rintro e w9 ⟨rfl, b9⟩
      have B9 := B8.trans (b9.mono B8.size)
      have ha9 := ha8.below b9
      have hb9 := hb8.below b9
      have hx9 := hx8.below b9
      clear ha8 hb8 hx8 b9
      go_wp2_with fail
      refine (rcmp_any A B ca cb xs ys w9 ha9 hb9 hx hy (by omega) (by omega)).mono ?_
      rintro e w10 ⟨rfl, rfl⟩
      generalize cmpN (val xs) (val ys) = cc
      go_wp2_with fail
      refine (of_any n w9 hn).mono ?_
      rintro e w11 ⟨⟨vo2, rfl, A8, k8, o2s, rfl, e1, e2, e3, e4, e5⟩, b11⟩
      have E5 := Lib.hid e5
      have hol2 : o2s.length ≤ 2 := (small_iff (xs := o2s) e4 rfl).2 (by rw [e5]; exact hn)
      have B11 := B9.trans (b11.mono B9.size)
      clear e5
      go_wp2_with fail
      refine (rof_any n w11 hn).mono ?_
      rintro e w12 ⟨⟨vo3, rfl, A9, k9, o3s, rfl, i1, i2, i3, i4⟩, b12⟩
      have B12 := B11.trans (b12.mono B11.size)
      have sm3 := same_any A8 A9 k8 k9 o2s o3s w12 (e3.below b12) i2 (by omega)
      rw [same_can e4 i3 (by rw [E5.out, i4])] at sm3
      have SM3 := Lib.hid sm3
      have ha12 := (ha9.below b11).below b12
      have hx12 := (hx9.below b11).below b12
      clear sm3 i4 e3 ha9 hx9 hb9 b11 b12
      go_wp2_with fail
      refine SM3.out.mono ?_
      rintro e w13 ⟨rfl, b13⟩
      have B13 := B12.trans (b13.mono B12.size)
      have sm4 := same_any (some ⟨g1, 0, none⟩) A k1 ca xs xs w13 (hx12.below b13) (ha12.below b13) (by omega)
      rw [sameB_self] at sm4
      go_wp2_with fail
      refine sm4.mono ?_
      rintro e w14 ⟨rfl, b14⟩
      go_wp2
      go_ret
      exact ⟨rfl, B13.trans (b14.mono B13.size)⟩
    · obtain ⟨e1, e2⟩ := want_step (xs := xs) (j := m) (by omega) HS.out
      obtain ⟨b, o, rfl, _, hc⟩ := ha4.at_ (k := m) (by omega)
      rw [show ((m + 1 : Nat) : Int) - 1 = (m : Int) from by omega]
      have hxm := hx.get m
      generalize xs[m]?.getD 0 = xm at *
      generalize val (xs.drop (m + 1)) = pm at *
      have E1 := Lib.hid e1
      have hmul : (pm : Int) * 4294967296 < 18446744073709551616 := by omega
      clear e1
      go_wp2
      go_round
      case rel => exact ⟨m, by omega, rfl, by rw [E1.out]; congr 1⟩
      case measure => simp [intOf]
  · rcases hsm with ⟨hbad, _⟩ | ⟨_, rfl⟩
    case inl => omega
    have HS := Lib.hid hs
    clear hs
    go_wp2_with fail
    refine (rtrim_any A ca xs w2 ha2 hx (by omega) HNA.out).mono ?_
    rintro e w4 ⟨⟨v5, rfl, A5, k5, fs, rfl, f1, f2, f3, f4⟩, b4⟩
    have hfl : decide ((fs.length : Int) ≤ 2) = false := decide_eq_false (by have := (small_iff f3 f4).1; have := HS.out; omega)
    have F4 := Lib.hid f4
    clear f4
    have B4 := B2.trans (b4.mono B2.size)
    have ha4 := ha2.below b4
    have hb4 := hb2.below b4
    have hx4 := p5.below b4
    clear ha2 hb2 p5 b4
    go_wp2_with fail
    go_loop [11, 12] (fun v i => i = .int .i64 ((xs.length : Int) - 1) ∧ v = .int .u64 0) (fun _ _ => 0)
    case atStart => exact ⟨rfl, rfl⟩
    case round =>
      obtain ⟨rfl, rfl⟩ := hrel
      go_wp2_with fail
      refine (of_any n w4 hn).mono ?_
      rintro e w5 ⟨⟨vo, rfl, A6, k6, os, rfl, o1, o2, o3, o4, o5⟩, b5⟩
      have O5 := Lib.hid o5
      have hol : os.length ≤ 2 := (small_iff (xs := os) o4 rfl).2 (by rw [o5]; exact hn)
      clear o5
      have B5 := B4.trans (b5.mono B4.size)
      go_wp2_with fail
      have sm2 := small_any A6 k6 os w5 o3 o4.1 o1 (by omega)
      rw [O5.out] at sm2
      refine sm2.mono ?_
      rintro e w6 ⟨hsm2, rfl⟩
      rcases hsm2 with ⟨_, rfl⟩ | ⟨hbad, _⟩
      case inr => omega
      clear sm2 o3
      have ha5 := ha4.below b5
      have hb5 := hb4.below b5
      have hx5 := hx4.below b5
      clear ha4 hb4 hx4 b5
      go_wp2_with fail
      refine (trimUp_any (some ⟨g1, 0, none⟩) k1 xs w5 hx5 hx p1 p2 (by omega)).mono ?_
      rintro e w6 ⟨ts, rfl, t1, t2, t3, t4, b6⟩
      have T3 := Lib.hid t3
      have htr : Rd w6 (some ⟨w5.heap.size, 0, none⟩) ts := Rd.of_blk (pre := []) (post := []) (by simpa using t1)
      have B6 := B5.trans (b6.mono B5.size)
      have ha6 := ha5.below b6
      have hb6 := hb5.below b6
      have hx6 := hx5.below b6
      clear ha5 hb5 hx5 b6 t3
      go_wp2_with fail
      refine (rtrim_any A ca xs w6 ha6 hx (by omega) HNA.out).mono ?_
      rintro e w7 ⟨⟨v7, rfl, A7, k7, us, rfl, u1, u2, u3, u4⟩, b7⟩
      have B7 := B6.trans (b7.mono B6.size)
      have ha7 := ha6.below b7
      have hb7 := hb6.below b7
      have hx7 := hx6.below b7
      have sm := same_any (some ⟨w5.heap.size, 0, none⟩) A7 ts.length k7 ts us w7 (htr.below b7) u2 (by omega)
      rw [same_can t2 u3 (by rw [T3.out, u4])] at sm
      have SM := Lib.hid sm
      clear sm ha6 hb6 hx6 b7 u4
      go_wp2_with fail
      refine SM.out.mono ?_
      rintro e w8 ⟨rfl, b8⟩
      have B8 := B7.trans (b8.mono B7.size)
      have ha8 := ha7.below b8
      have hb8 := hb7.below b8
      have hx8 := hx7.below b8
      clear ha7 hb7 hx7 b8
      go_wp2_with fail
      refine (cmp_any (some ⟨g1, 0, none⟩) B k1 cb xs ys w8 hx8 hb8 hx hy p1 hcb p2 hcbm (by omega)).mono ?_
      rintro e w9 ⟨rfl, b9⟩
      have B9 := B8.trans (b9.mono B8.size)
      have ha9 := ha8.below b9
      have hb9 := hb8.below b9
      have hx9 := hx8.below b9
      clear ha8 hb8 hx8 b9
      go_wp2_with fail
      refine (rcmp_any A B ca cb xs ys w9 ha9 hb9 hx hy (by omega) (by omega)).mono ?_
      rintro e w10 ⟨rfl, rfl⟩
      generalize cmpN (val xs) (val ys) = cc
      go_wp2_with fail
      refine (of_any n w9 hn).mono ?_
      rintro e w11 ⟨⟨vo2, rfl, A8, k8, o2s, rfl, e1, e2, e3, e4, e5⟩, b11⟩
      have E5 := Lib.hid e5
      have hol2 : o2s.length ≤ 2 := (small_iff (xs := o2s) e4 rfl).2 (by rw [e5]; exact hn)
      have B11 := B9.trans (b11.mono B9.size)
      clear e5
      go_wp2_with fail
      refine (rof_any n w11 hn).mono ?_
      rintro e w12 ⟨⟨vo3, rfl, A9, k9, o3s, rfl, i1, i2, i3, i4⟩, b12⟩
      have B12 := B11.trans (b12.mono B11.size)
      have sm3 := same_any A8 A9 k8 k9 o2s o3s w12 (e3.below b12) i2 (by omega)
      rw [same_can e4 i3 (by rw [E5.out, i4])] at sm3
      have SM3 := Lib.hid sm3
      have ha12 := (ha9.below b11).below b12
      have hx12 := (hx9.below b11).below b12
      clear sm3 i4 e3 ha9 hx9 hb9 b11 b12
      go_wp2_with fail
      refine SM3.out.mono ?_
      rintro e w13 ⟨rfl, b13⟩
      have B13 := B12.trans (b13.mono B12.size)
      have sm4 := same_any (some ⟨g1, 0, none⟩) A k1 ca xs xs w13 (hx12.below b13) (ha12.below b13) (by omega)
      rw [sameB_self] at sm4
      go_wp2_with fail
      refine sm4.mono ?_
      rintro e w14 ⟨rfl, b14⟩
      go_wp2
      go_ret
      exact ⟨rfl, B13.trans (b14.mono B13.size)⟩

end LM
end Go.Proofs.YtkkogmgboehfdaaDoor
