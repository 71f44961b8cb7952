/- The walk of the statement LimbAdds. -/
import Derived.Test.YtkkogmgboehfdaaDoorLimbCopy
import Derived.Test.YtkkogmgboehfdaaDoorLimbLawRing
import Derived.Test.YtkkogmgboehfdaaDoorLimbZ
namespace Go.Proofs.YtkkogmgboehfdaaDoor
open Go.RowKit
namespace LM

theorem sum_len {rs xs ys : List Nat} (hr : Can rs) (hx : Lm xs) (hy : Lm ys) (hv : val rs = val xs + val ys) (h1 : xs.length ≤ 200) (h2 : ys.length ≤ 200) : rs.length ≤ 201 := by
  rcases Nat.lt_or_ge 201 rs.length with h | h
  · exfalso
    have h3 := (can_len hr 201).1 h
    have h4 := val_len_lt hx h1
    have h5 := val_len_lt hy h2
    rw [Nat.pow_succ] at h3
    generalize 4294967296 ^ 200 = P at *
    omega
  · exact h

set_option maxRecDepth 100000 in
set_option maxHeartbeats 4000000 in
theorem adds_walk (A B : Option Addr) (ca cb : Nat) (xs ys : List Nat) (w : World) (ha : Rd w A xs) (hb : Rd w B ys) (hx : Lm xs) (hy : Lm ys) (hna : A = none → xs.length = 0 ∧ ca = 0) (hnb : B = none → ys.length = 0 ∧ cb = 0)
    (htab : Lib.TabIs Tryd.prog w "internal/strconv.uint64pow10" .u64 Lib.pow10Tab) :
    Calls Tryd.prog 5 #[.slice A xs.length ca, .slice B ys.length cb] w fun e w' => e = .returned (.bool true) ∧ Below w.heap.size w w' := by
  have HAL := Lib.hid (alive_any w htab)
  clear htab
  by_cases h1 : 200 < xs.length
  · have hd : decide (200 < xs.length) = true := decide_eq_true h1
    go_enter Tryd.func5, Tryd.ntmps5
    go_wp2_with fail
    refine HAL.out.mono ?_
    rintro e w1 ⟨rfl, b1⟩
    go_wp2
    go_ret
    exact ⟨rfl, b1⟩
  by_cases h2 : 200 < ys.length
  · have hd : decide (200 < xs.length) = false := decide_eq_false h1
    have hd2 : decide (200 < ys.length) = true := decide_eq_true h2
    go_enter Tryd.func5, Tryd.ntmps5
    go_wp2_with fail
    refine HAL.out.mono ?_
    rintro e w1 ⟨rfl, b1⟩
    go_wp2
    go_ret
    exact ⟨rfl, b1⟩
  have hd : decide (200 < xs.length) = false := decide_eq_false h1
  have hd2 : decide (200 < ys.length) = false := decide_eq_false h2
  have hlx : xs.length ≤ 200 := by omega
  have hly : ys.length ≤ 200 := by omega
  have HNA := Lib.hid hna
  have HNB := Lib.hid hnb
  clear hna hnb h1 h2
  go_enter Tryd.func5, Tryd.ntmps5
  go_wp2_with fail
  refine HAL.out.mono ?_
  rintro e w1 ⟨rfl, b1⟩
  have ha1 := ha.below b1
  have hb1 := hb.below b1
  clear ha hb
  have tok1 : True := trivial
  go_wp2_with (first | (at_builtin; have _t := tok1; refine wp_copy rfl _ _ rfl w1 A ca xs ha1 (by omega) HNA.out rfl rfl ?_; intro g1 k1 w2 p1 p2 p3 p4 p5 p6; clear tok1) | (at_builtin; refine wp_copy rfl _ _ rfl w2 B cb ys (hb1.below p6) (by omega) HNB.out rfl rfl ?_; intro g2 k2 w3 q1 q2 q3 q4 q5 q6))
  have B3 : Below w.heap.size w w3 := (b1.trans (p6.mono b1.size)).trans (q6.mono (Nat.le_trans b1.size p6.size))
  have ha3 := (ha1.below p6).below q6
  have hb3 := (hb1.below p6).below q6
  have hx3 := p5.below q6
  clear ha1 hb1 p6 q6 p5 b1
  refine (add_any (some ⟨g1, 0, none⟩) (some ⟨g2, 0, none⟩) k1 k2 xs ys w3 hx3 q5 hx hy p1 q1 p2 q2).mono ?_
  rintro e w4 ⟨v1, er1, rfl, hans, b4⟩
  have B4 := B3.trans (b4.mono B3.size)
  have ha4 := ha3.below b4
  have hb4 := hb3.below b4
  have hx4 := hx3.below b4
  have hy4 := q5.below b4
  clear ha3 hb3 hx3 q5
  go_wp2_with fail
  refine (sub_any (some ⟨g1, 0, none⟩) (some ⟨g2, 0, none⟩) k1 k2 xs ys w4 hx4 hy4 hx hy p1 q1 p2 q2 (by omega)).mono ?_
  rintro e w5 ⟨v2, ok, rfl, hsub, b5⟩
  have B5 := B4.trans (b5.mono B4.size)
  have ha5 := ha4.below b5
  have hb5 := hb4.below b5
  have hx5 := hx4.below b5
  have hy5 := hy4.below b5
  clear ha4 hb4 hx4 hy4
  go_wp2_with fail
  refine (rplus_any A B ca cb xs ys w5 ha5 hb5 hx hy (by omega) (by omega)).mono ?_
  rintro e w6 ⟨⟨v3, rfl, A3, k3, rs, rfl, r1, r2, r3, r4⟩, b6⟩
  have B6 := B5.trans (b6.mono B5.size)
  have ha6 := ha5.below b6
  have hb6 := hb5.below b6
  have hx6 := hx5.below b6
  have hy6 := hy5.below b6
  clear ha5 hb5 hx5 hy5
  have hrl := sum_len r3 hx hy r4 hlx hly
  have R4 := Lib.hid r4
  clear r4
  by_cases nx : BIG (val xs)
  · rcases hans with ⟨_, rfl, rfl⟩ | ⟨hnb, _⟩
    case inr => exact absurd (.inl nx) hnb
    have HN := Lib.hid nx
    clear nx
    go_wp2_with fail
    refine (rbig_any A ca xs w6 ha6 hx (by omega) HNA.out).mono ?_
    rintro e w7 ⟨⟨bo, rfl, hbo⟩, b7⟩
    obtain rfl := hbo.2 HN.out
    clear hbo
    go_wp2_with fail
    refine (rcmp_any A B ca cb xs ys w7 (ha6.below b7) (hb6.below b7) hx hy (by omega) (by omega)).mono ?_
    rintro e w8 ⟨rfl, rfl⟩
    rcases hsub with ⟨hlt, rfl, rfl⟩ | ⟨hle, rfl, hN2⟩
    · rw [cmpN_lt hlt]
      go_wp2
      go_ret
      exact ⟨rfl, B6.trans (b7.mono B6.size)⟩
    · have hcm : decide (cmpN (val xs) (val ys) < 0) = false := by
        unfold cmpN
        rw [if_neg (by omega)]
        split <;> rfl
      obtain ⟨A2, k4, ds, rfl, t1, t2, t3, t4, t5⟩ := hN2
      have HT5 := Lib.hid t5
      have HLE := Lib.hid hle
      have ht7 := ((t3.below b6)).below b7
      have ha7 := ha6.below b7
      have hb7 := hb6.below b7
      have hx7 := hx6.below b7
      have hy7 := hy6.below b7
      have B7 := B6.trans (b7.mono B6.size)
      clear t5 hle t3
      go_wp2_with fail
      refine (rtrim_any A ca xs w7 ha7 hx (by omega) HNA.out).mono ?_
      rintro e w9 ⟨⟨v5, rfl, A5, k5, fs, rfl, f1, f2, f3, f4⟩, b9⟩
      have F4 := Lib.hid f4
      have hfl := read_len f3 hx f4
      clear f4
      go_wp2_with fail
      refine (rtrim_any B cb ys w9 (hb7.below b9) hy (by omega) HNB.out).mono ?_
      rintro e w10 ⟨⟨v6, rfl, A6, k6, gs, rfl, e1, e2, e3, e4⟩, b10⟩
      have E4 := Lib.hid e4
      have hgl := read_len e3 hy e4
      clear e4
      go_wp2_with fail
      refine (rminus_any A5 A6 k5 k6 fs gs w10 (f2.below b10) e2 f3.1 e3.1 (by omega) (by omega) (by rw [F4.out, E4.out]; exact HLE.out)).mono ?_
      rintro e w11 ⟨⟨v7, rfl, A7, k7, hs, rfl, i1, i2, i3, i4⟩, b11⟩
      have b911 := (b9.trans (b10.mono b9.size)).trans (b11.mono (Nat.le_trans b9.size b10.size))
      have hdl : ds.length ≤ 200 := Nat.le_trans (by
        rcases Nat.lt_or_ge xs.length ds.length with h | h
        · exfalso
          have h1 := (can_len t4 xs.length).1 h
          have h2 := val_lt hx
          have h3 := HT5.out
          omega
        · exact h) hlx
      have s1 := same_any A2 A7 k4 k7 ds hs w11 (ht7.below b911) i2 (by omega)
      rw [same_of t4 i3 (by rw [HT5.out, i4, F4.out, E4.out])] at s1
      have s2 := fun W (b : Below w11.heap.size w11 W) => same_any (some ⟨g1, 0, none⟩) A k1 ca xs xs W ((hx7.below b911).below b) ((ha7.below b911).below b) (by omega)
      have s3 := fun W (b : Below w11.heap.size w11 W) => same_any (some ⟨g2, 0, none⟩) B k2 cb ys ys W ((hy7.below b911).below b) ((hb7.below b911).below b) (by omega)
      rw [sameB_self] at s2 s3
      have S1 := Lib.hid s1
      have S2 := Lib.hid s2
      have S3 := Lib.hid s3
      clear s1 s2 s3 i4
      go_wp2_with fail
      refine S1.out.mono ?_
      rintro e w12 ⟨rfl, b12⟩
      go_wp2_with fail
      refine (S2.out _ b12).mono ?_
      rintro e w13 ⟨rfl, b13⟩
      have b1213 := b12.trans (b13.mono b12.size)
      go_wp2_with fail
      refine (S3.out _ b1213).mono ?_
      rintro e w14 ⟨rfl, b14⟩
      have B11 := B7.trans (b911.mono B7.size)
      have B13 := B11.trans (b1213.mono B11.size)
      go_wp2
      go_ret
      exact ⟨rfl, B13.trans (b14.mono B13.size)⟩
  by_cases ny : BIG (val ys)
  · rcases hans with ⟨_, rfl, rfl⟩ | ⟨hnb, _⟩
    case inr => exact absurd (.inr (.inl ny)) hnb
    have HN := Lib.hid ny
    have HM := Lib.hid nx
    clear nx ny
    go_wp2_with fail
    refine (rbig_any A ca xs w6 ha6 hx (by omega) HNA.out).mono ?_
    rintro e w7 ⟨⟨bo, rfl, hbo⟩, c1⟩
    obtain rfl : bo = false := by cases bo; rfl; exact absurd (hbo.1 rfl) HM.out
    clear hbo
    go_wp2_with fail
    refine (rbig_any B cb ys w7 (hb6.below c1) hy (by omega) HNB.out).mono ?_
    rintro e w7 ⟨⟨bo, rfl, hbo⟩, c2⟩
    obtain rfl := hbo.2 HN.out
    have b7 := c1.trans (c2.mono c1.size)
    clear hbo c1 c2
    go_wp2_with fail
    refine (rcmp_any A B ca cb xs ys w7 (ha6.below b7) (hb6.below b7) hx hy (by omega) (by omega)).mono ?_
    rintro e w8 ⟨rfl, rfl⟩
    rcases hsub with ⟨hlt, rfl, rfl⟩ | ⟨hle, rfl, hN2⟩
    · rw [cmpN_lt hlt]
      go_wp2
      go_ret
      exact ⟨rfl, B6.trans (b7.mono B6.size)⟩
    · have hcm : decide (cmpN (val xs) (val ys) < 0) = false := by
        unfold cmpN
        rw [if_neg (by omega)]
        split <;> rfl
      obtain ⟨A2, k4, ds, rfl, t1, t2, t3, t4, t5⟩ := hN2
      have HT5 := Lib.hid t5
      have HLE := Lib.hid hle
      have ht7 := ((t3.below b6)).below b7
      have ha7 := ha6.below b7
      have hb7 := hb6.below b7
      have hx7 := hx6.below b7
      have hy7 := hy6.below b7
      have B7 := B6.trans (b7.mono B6.size)
      clear t5 hle t3
      go_wp2_with fail
      refine (rtrim_any A ca xs w7 ha7 hx (by omega) HNA.out).mono ?_
      rintro e w9 ⟨⟨v5, rfl, A5, k5, fs, rfl, f1, f2, f3, f4⟩, b9⟩
      have F4 := Lib.hid f4
      have hfl := read_len f3 hx f4
      clear f4
      go_wp2_with fail
      refine (rtrim_any B cb ys w9 (hb7.below b9) hy (by omega) HNB.out).mono ?_
      rintro e w10 ⟨⟨v6, rfl, A6, k6, gs, rfl, e1, e2, e3, e4⟩, b10⟩
      have E4 := Lib.hid e4
      have hgl := read_len e3 hy e4
      clear e4
      go_wp2_with fail
      refine (rminus_any A5 A6 k5 k6 fs gs w10 (f2.below b10) e2 f3.1 e3.1 (by omega) (by omega) (by rw [F4.out, E4.out]; exact HLE.out)).mono ?_
      rintro e w11 ⟨⟨v7, rfl, A7, k7, hs, rfl, i1, i2, i3, i4⟩, b11⟩
      have b911 := (b9.trans (b10.mono b9.size)).trans (b11.mono (Nat.le_trans b9.size b10.size))
      have hdl : ds.length ≤ 200 := Nat.le_trans (by
        rcases Nat.lt_or_ge xs.length ds.length with h | h
        · exfalso
          have h1 := (can_len t4 xs.length).1 h
          have h2 := val_lt hx
          have h3 := HT5.out
          omega
        · exact h) hlx
      have s1 := same_any A2 A7 k4 k7 ds hs w11 (ht7.below b911) i2 (by omega)
      rw [same_of t4 i3 (by rw [HT5.out, i4, F4.out, E4.out])] at s1
      have s2 := fun W (b : Below w11.heap.size w11 W) => same_any (some ⟨g1, 0, none⟩) A k1 ca xs xs W ((hx7.below b911).below b) ((ha7.below b911).below b) (by omega)
      have s3 := fun W (b : Below w11.heap.size w11 W) => same_any (some ⟨g2, 0, none⟩) B k2 cb ys ys W ((hy7.below b911).below b) ((hb7.below b911).below b) (by omega)
      rw [sameB_self] at s2 s3
      have S1 := Lib.hid s1
      have S2 := Lib.hid s2
      have S3 := Lib.hid s3
      clear s1 s2 s3 i4
      go_wp2_with fail
      refine S1.out.mono ?_
      rintro e w12 ⟨rfl, b12⟩
      go_wp2_with fail
      refine (S2.out _ b12).mono ?_
      rintro e w13 ⟨rfl, b13⟩
      have b1213 := b12.trans (b13.mono b12.size)
      go_wp2_with fail
      refine (S3.out _ b1213).mono ?_
      rintro e w14 ⟨rfl, b14⟩
      have B11 := B7.trans (b911.mono B7.size)
      have B13 := B11.trans (b1213.mono B11.size)
      go_wp2
      go_ret
      exact ⟨rfl, B13.trans (b14.mono B13.size)⟩
  have HX := Lib.hid nx
  have HY := Lib.hid ny
  by_cases ns : BIG (val xs + val ys)
  · rcases hans with ⟨_, rfl, rfl⟩ | ⟨hnb, _⟩
    case inr => exact absurd (.inr (.inr ns)) hnb
    have HN := Lib.hid ns
    clear nx ny ns
    go_wp2_with fail
    refine (rbig_any A ca xs w6 ha6 hx (by omega) HNA.out).mono ?_
    rintro e w7 ⟨⟨bo, rfl, hbo⟩, c1⟩
    obtain rfl : bo = false := by cases bo; rfl; exact absurd (hbo.1 rfl) HX.out
    clear hbo
    go_wp2_with fail
    refine (rbig_any B cb ys w7 (hb6.below c1) hy (by omega) HNB.out).mono ?_
    rintro e w7 ⟨⟨bo, rfl, hbo⟩, c2⟩
    obtain rfl : bo = false := by cases bo; rfl; exact absurd (hbo.1 rfl) HY.out
    have c12 := c1.trans (c2.mono c1.size)
    clear hbo c1 c2
    go_wp2_with fail
    refine (rbig_any A3 k3 rs w7 (r2.below c12) r3.1 (by omega) r1).mono ?_
    rintro e w7 ⟨⟨bo, rfl, hbo⟩, c3⟩
    rw [R4.out] at hbo
    obtain rfl := hbo.2 HN.out
    have b7 := c12.trans (c3.mono c12.size)
    clear hbo c12 c3
    go_wp2_with fail
    refine (rcmp_any A B ca cb xs ys w7 (ha6.below b7) (hb6.below b7) hx hy (by omega) (by omega)).mono ?_
    rintro e w8 ⟨rfl, rfl⟩
    rcases hsub with ⟨hlt, rfl, rfl⟩ | ⟨hle, rfl, hN2⟩
    · rw [cmpN_lt hlt]
      go_wp2
      go_ret
      exact ⟨rfl, B6.trans (b7.mono B6.size)⟩
    · have hcm : decide (cmpN (val xs) (val ys) < 0) = false := by
        unfold cmpN
        rw [if_neg (by omega)]
        split <;> rfl
      obtain ⟨A2, k4, ds, rfl, t1, t2, t3, t4, t5⟩ := hN2
      have HT5 := Lib.hid t5
      have HLE := Lib.hid hle
      have ht7 := ((t3.below b6)).below b7
      have ha7 := ha6.below b7
      have hb7 := hb6.below b7
      have hx7 := hx6.below b7
      have hy7 := hy6.below b7
      have B7 := B6.trans (b7.mono B6.size)
      clear t5 hle t3
      go_wp2_with fail
      refine (rtrim_any A ca xs w7 ha7 hx (by omega) HNA.out).mono ?_
      rintro e w9 ⟨⟨v5, rfl, A5, k5, fs, rfl, f1, f2, f3, f4⟩, b9⟩
      have F4 := Lib.hid f4
      have hfl := read_len f3 hx f4
      clear f4
      go_wp2_with fail
      refine (rtrim_any B cb ys w9 (hb7.below b9) hy (by omega) HNB.out).mono ?_
      rintro e w10 ⟨⟨v6, rfl, A6, k6, gs, rfl, e1, e2, e3, e4⟩, b10⟩
      have E4 := Lib.hid e4
      have hgl := read_len e3 hy e4
      clear e4
      go_wp2_with fail
      refine (rminus_any A5 A6 k5 k6 fs gs w10 (f2.below b10) e2 f3.1 e3.1 (by omega) (by omega) (by rw [F4.out, E4.out]; exact HLE.out)).mono ?_
      rintro e w11 ⟨⟨v7, rfl, A7, k7, hs, rfl, i1, i2, i3, i4⟩, b11⟩
      have b911 := (b9.trans (b10.mono b9.size)).trans (b11.mono (Nat.le_trans b9.size b10.size))
      have hdl : ds.length ≤ 200 := Nat.le_trans (by
        rcases Nat.lt_or_ge xs.length ds.length with h | h
        · exfalso
          have h1 := (can_len t4 xs.length).1 h
          have h2 := val_lt hx
          have h3 := HT5.out
          omega
        · exact h) hlx
      have s1 := same_any A2 A7 k4 k7 ds hs w11 (ht7.below b911) i2 (by omega)
      rw [same_of t4 i3 (by rw [HT5.out, i4, F4.out, E4.out])] at s1
      have s2 := fun W (b : Below w11.heap.size w11 W) => same_any (some ⟨g1, 0, none⟩) A k1 ca xs xs W ((hx7.below b911).below b) ((ha7.below b911).below b) (by omega)
      have s3 := fun W (b : Below w11.heap.size w11 W) => same_any (some ⟨g2, 0, none⟩) B k2 cb ys ys W ((hy7.below b911).below b) ((hb7.below b911).below b) (by omega)
      rw [sameB_self] at s2 s3
      have S1 := Lib.hid s1
      have S2 := Lib.hid s2
      have S3 := Lib.hid s3
      clear s1 s2 s3 i4
      go_wp2_with fail
      refine S1.out.mono ?_
      rintro e w12 ⟨rfl, b12⟩
      go_wp2_with fail
      refine (S2.out _ b12).mono ?_
      rintro e w13 ⟨rfl, b13⟩
      have b1213 := b12.trans (b13.mono b12.size)
      go_wp2_with fail
      refine (S3.out _ b1213).mono ?_
      rintro e w14 ⟨rfl, b14⟩
      have B11 := B7.trans (b911.mono B7.size)
      have B13 := B11.trans (b1213.mono B11.size)
      go_wp2
      go_ret
      exact ⟨rfl, B13.trans (b14.mono B13.size)⟩
  · rcases hans with ⟨hbad, _⟩ | ⟨_, rfl, hN1⟩
    · exact (Or.elim hbad (fun h => nx h) (fun h => Or.elim h (fun h => ny h) (fun h => ns h)) : False).elim
    obtain ⟨A1, c1', ss, rfl, u1, u2, u3, u4, u5⟩ := hN1
    have hsl : ss.length ≤ 201 := sum_len u4 hx hy u5 hlx hly
    have U5 := Lib.hid u5
    have HN := Lib.hid ns
    have hs6 := (u3.below b5).below b6
    clear nx ny ns u5 u3
    go_wp2_with fail
    refine (rbig_any A ca xs w6 ha6 hx (by omega) HNA.out).mono ?_
    rintro e w7 ⟨⟨bo, rfl, hbo⟩, c1⟩
    obtain rfl : bo = false := by cases bo; rfl; exact absurd (hbo.1 rfl) HX.out
    clear hbo
    go_wp2_with fail
    refine (rbig_any B cb ys w7 (hb6.below c1) hy (by omega) HNB.out).mono ?_
    rintro e w7 ⟨⟨bo, rfl, hbo⟩, c2⟩
    obtain rfl : bo = false := by cases bo; rfl; exact absurd (hbo.1 rfl) HY.out
    have c12 := c1.trans (c2.mono c1.size)
    clear hbo c1 c2
    go_wp2_with fail
    refine (rbig_any A3 k3 rs w7 (r2.below c12) r3.1 (by omega) r1).mono ?_
    rintro e w7 ⟨⟨bo, rfl, hbo⟩, c3⟩
    rw [R4.out] at hbo
    obtain rfl : bo = false := by cases bo; rfl; exact absurd (hbo.1 rfl) HN.out
    have c13 := c12.trans (c3.mono c12.size)
    clear hbo c12 c3
    have sm := same_any A1 A3 c1' k3 ss rs w7 (hs6.below c13) (r2.below c13) (by omega)
    rw [same_of u4 r3 (by rw [U5.out, R4.out])] at sm
    go_wp2_with fail
    refine sm.mono ?_
    rintro e w7 ⟨rfl, c4⟩
    have b7 := c13.trans (c4.mono c13.size)
    clear sm c13 c4
    go_wp2_with fail
    refine (rcmp_any A B ca cb xs ys w7 (ha6.below b7) (hb6.below b7) hx hy (by omega) (by omega)).mono ?_
    rintro e w8 ⟨rfl, rfl⟩
    rcases hsub with ⟨hlt, rfl, rfl⟩ | ⟨hle, rfl, hN2⟩
    · rw [cmpN_lt hlt]
      go_wp2
      go_ret
      exact ⟨rfl, B6.trans (b7.mono B6.size)⟩
    · have hcm : decide (cmpN (val xs) (val ys) < 0) = false := by
        unfold cmpN
        rw [if_neg (by omega)]
        split <;> rfl
      obtain ⟨A2, k4, ds, rfl, t1, t2, t3, t4, t5⟩ := hN2
      have HT5 := Lib.hid t5
      have HLE := Lib.hid hle
      have ht7 := ((t3.below b6)).below b7
      have ha7 := ha6.below b7
      have hb7 := hb6.below b7
      have hx7 := hx6.below b7
      have hy7 := hy6.below b7
      have B7 := B6.trans (b7.mono B6.size)
      clear t5 hle t3
      go_wp2_with fail
      refine (rtrim_any A ca xs w7 ha7 hx (by omega) HNA.out).mono ?_
      rintro e w9 ⟨⟨v5, rfl, A5, k5, fs, rfl, f1, f2, f3, f4⟩, b9⟩
      have F4 := Lib.hid f4
      have hfl := read_len f3 hx f4
      clear f4
      go_wp2_with fail
      refine (rtrim_any B cb ys w9 (hb7.below b9) hy (by omega) HNB.out).mono ?_
      rintro e w10 ⟨⟨v6, rfl, A6, k6, gs, rfl, e1, e2, e3, e4⟩, b10⟩
      have E4 := Lib.hid e4
      have hgl := read_len e3 hy e4
      clear e4
      go_wp2_with fail
      refine (rminus_any A5 A6 k5 k6 fs gs w10 (f2.below b10) e2 f3.1 e3.1 (by omega) (by omega) (by rw [F4.out, E4.out]; exact HLE.out)).mono ?_
      rintro e w11 ⟨⟨v7, rfl, A7, k7, hs, rfl, i1, i2, i3, i4⟩, b11⟩
      have b911 := (b9.trans (b10.mono b9.size)).trans (b11.mono (Nat.le_trans b9.size b10.size))
      have hdl : ds.length ≤ 200 := Nat.le_trans (by
        rcases Nat.lt_or_ge xs.length ds.length with h | h
        · exfalso
          have h1 := (can_len t4 xs.length).1 h
          have h2 := val_lt hx
          have h3 := HT5.out
          omega
        · exact h) hlx
      have s1 := same_any A2 A7 k4 k7 ds hs w11 (ht7.below b911) i2 (by omega)
      rw [same_of t4 i3 (by rw [HT5.out, i4, F4.out, E4.out])] at s1
      have s2 := fun W (b : Below w11.heap.size w11 W) => same_any (some ⟨g1, 0, none⟩) A k1 ca xs xs W ((hx7.below b911).below b) ((ha7.below b911).below b) (by omega)
      have s3 := fun W (b : Below w11.heap.size w11 W) => same_any (some ⟨g2, 0, none⟩) B k2 cb ys ys W ((hy7.below b911).below b) ((hb7.below b911).below b) (by omega)
      rw [sameB_self] at s2 s3
      have S1 := Lib.hid s1
      have S2 := Lib.hid s2
      have S3 := Lib.hid s3
      clear s1 s2 s3 i4
      go_wp2_with fail
      refine S1.out.mono ?_
      rintro e w12 ⟨rfl, b12⟩
      go_wp2_with fail
      refine (S2.out _ b12).mono ?_
      rintro e w13 ⟨rfl, b13⟩
      have b1213 := b12.trans (b13.mono b12.size)
      go_wp2_with fail
      refine (S3.out _ b1213).mono ?_
      rintro e w14 ⟨rfl, b14⟩
      have B11 := B7.trans (b911.mono B7.size)
      have B13 := B11.trans (b1213.mono B11.size)
      go_wp2
      go_ret
      exact ⟨rfl, B13.trans (b14.mono B13.size)⟩

end LM
end Go.Proofs.YtkkogmgboehfdaaDoor
