/- The walk of the statement LimbRing. -/
import Derived.Test.YtkkogmgboehfdaaDoorLimbLawBack
import Derived.Test.YtkkogmgboehfdaaDoorLimbO
namespace Go.Proofs.YtkkogmgboehfdaaDoor
open Go.RowKit
namespace LM

theorem ring_big {x y z : Nat} (hx : x < 4294967296 ^ 30) (hy : y < 4294967296 ^ 30) (hz : z < 4294967296 ^ 30) : ¬ BIG (x + y) ∧ ¬ BIG ((x + y) * z) ∧ ¬ BIG z := by
  have e : (4294967296 : Nat) ^ 64 = 4294967296 ^ 30 * (4294967296 ^ 30 * 4294967296 ^ 4) := by rw [← Nat.pow_add, ← Nat.pow_add]
  have e4 : (2 : Nat) ≤ 4294967296 ^ 4 := by decide
  unfold BIG
  rw [e]
  have hP : 1 ≤ 4294967296 ^ 30 := Nat.pow_pos (by decide)
  generalize 4294967296 ^ 30 = P at *
  generalize 4294967296 ^ 4 = Q at *
  clear e
  have h1 : P * 2 ≤ P * Q := Nat.mul_le_mul_left _ e4
  have h2 : P * (P * 2) ≤ P * (P * Q) := Nat.mul_le_mul_left _ h1
  have h3 : 1 * (P * Q) ≤ P * (P * Q) := Nat.mul_le_mul_right _ hP
  refine ⟨by omega, ?_, by omega⟩
  have h4 : (x + y) * z ≤ (x + y) * P := Nat.mul_le_mul_left _ (by omega)
  have h5 : (x + y) * P < (2 * P) * P := Nat.mul_lt_mul_of_pos_right (by omega) hP
  have h6 : (2 * P) * P = P * (P * 2) := by rw [Nat.mul_comm 2 P, Nat.mul_assoc, Nat.mul_comm 2 P]
  omega

theorem same_of {xs ys : List Nat} (hx : Can xs) (hy : Can ys) (h : val xs = val ys) : sameB xs ys = true := by rw [can_ext hx hy h]; exact sameB_self _

theorem limb_len {xs : List Nat} (h : Can xs) (hb : ¬ BIG (val xs)) : xs.length ≤ 64 := by
  rcases Nat.lt_or_ge 64 xs.length with h1 | h1
  · exact absurd ((big_iff h).1 h1) hb
  · exact h1

set_option maxRecDepth 100000 in
set_option maxHeartbeats 1000000 in
theorem ring_walk (A B D : Option Addr) (ca cb cc : Nat) (xs ys zs : List Nat) (w : World) (ha : Rd w A xs) (hb : Rd w B ys) (hc : Rd w D zs) (hx : Lm xs) (hy : Lm ys) (hz : Lm zs) (hca : xs.length ≤ ca) (hcb : ys.length ≤ cb) (hcc : zs.length ≤ cc) (hcam : ca ≤ 9223372036854775807) (hcbm : cb ≤ 9223372036854775807) (hccm : cc ≤ 9223372036854775807)
    (htab : Lib.TabIs Tryd.prog w "internal/strconv.uint64pow10" .u64 Lib.pow10Tab) :
    Calls Tryd.prog 10 #[.slice A xs.length ca, .slice B ys.length cb, .slice D zs.length cc] w fun e w' => e = .returned (.bool true) ∧ Below w.heap.size w w' := by
  have HAL := Lib.hid (alive_any w htab)
  clear htab
  by_cases h0 : xs.length ≤ 30 ∧ ys.length ≤ 30 ∧ zs.length ≤ 30
  case neg =>
    by_cases h1 : 30 < xs.length
    · have hd : decide (30 < xs.length) = true := decide_eq_true h1
      go_enter Tryd.func10, Tryd.ntmps10
      go_wp2_with fail
      refine HAL.out.mono ?_
      rintro e w1 ⟨rfl, hb1⟩
      go_wp2
      go_ret
      exact ⟨rfl, hb1⟩
    · have hd : decide (30 < xs.length) = false := decide_eq_false h1
      by_cases h2 : 30 < ys.length
      · have hd2 : decide (30 < ys.length) = true := decide_eq_true h2
        go_enter Tryd.func10, Tryd.ntmps10
        go_wp2_with fail
        refine HAL.out.mono ?_
        rintro e w1 ⟨rfl, hb1⟩
        go_wp2
        go_ret
        exact ⟨rfl, hb1⟩
      · have hd2 : decide (30 < ys.length) = false := decide_eq_false h2
        have hd3 : decide (30 < zs.length) = true := decide_eq_true (by omega)
        go_enter Tryd.func10, Tryd.ntmps10
        go_wp2_with fail
        refine HAL.out.mono ?_
        rintro e w1 ⟨rfl, hb1⟩
        go_wp2
        go_ret
        exact ⟨rfl, hb1⟩
  case pos =>
    obtain ⟨l1, l2, l3⟩ := h0
    have hd : decide (30 < xs.length) = false := decide_eq_false (by omega)
    have hd2 : decide (30 < ys.length) = false := decide_eq_false (by omega)
    have hd3 : decide (30 < zs.length) = false := decide_eq_false (by omega)
    obtain ⟨n1, n2, n3⟩ := ring_big (val_len_lt hx l1) (val_len_lt hy l2) (val_len_lt hz l3)
    have N1 := Lib.hid n1
    have N2 := Lib.hid n2
    have N3 := Lib.hid n3
    have N4 := Lib.hid (fun h : BIG (val xs) => n1 (h.mono (Nat.le_add_right _ _)))
    have N5 := Lib.hid (fun h : BIG (val ys) => n1 (h.mono (Nat.le_add_left _ _)))
    have N6 := Lib.hid (fun h : BIG (val xs * val zs) => n2 (h.mono (Nat.mul_le_mul_right _ (Nat.le_add_right _ _))))
    have N7 := Lib.hid (fun h : BIG (val zs * val ys) => n2 (h.mono (by rw [Nat.mul_comm]; exact Nat.mul_le_mul_right _ (Nat.le_add_left _ _))))
    clear n1 n2 n3
    go_enter Tryd.func10, Tryd.ntmps10
    go_wp2_with fail
    refine HAL.out.mono ?_
    rintro e w1 ⟨rfl, b1⟩
    have B1 := b1
    have ha1 := ha.below b1
    have hb1 := hb.below b1
    have hc1 := hc.below b1
    go_wp2_with fail
    refine (add_any A B ca cb xs ys w1 ha1 hb1 hx hy hca hcb hcam hcbm).mono ?_
    rintro e w2 ⟨v1, er1, rfl, hans1, b2⟩
    rcases hans1 with ⟨hbad, _⟩ | ⟨_, rfl, hN1⟩
    · exact (Or.elim hbad (fun h => N4.out h) (fun h => Or.elim h (fun h => N5.out h) (fun h => N1.out h)) : False).elim
    obtain ⟨A1, c1, r1, rfl, k1, k2, k3, k4, k5⟩ := hN1
    have K5 := Lib.hid k5
    have B2 := B1.trans (b2.mono B1.size)
    have ha2 := ha1.below b2
    have hb2 := hb1.below b2
    have hc2 := hc1.below b2
    clear k5 ha hb hc ha1 hb1 hc1
    go_wp2_with fail
    refine (add_any B A cb ca ys xs w2 hb2 ha2 hy hx hcb hca hcbm hcam).mono ?_
    rintro e w3 ⟨v2, er2, rfl, hans2, b3⟩
    rcases hans2 with ⟨hbad, _⟩ | ⟨_, rfl, hN2⟩
    · exact (Or.elim hbad (fun h => N5.out h) (fun h => Or.elim h (fun h => N4.out h) (fun h => N1.out (by rw [Nat.add_comm]; exact h))) : False).elim
    obtain ⟨A2, c2, r2, rfl, m1, m2, m3, m4, m5⟩ := hN2
    have M5 := Lib.hid m5
    have B3 := B2.trans (b3.mono B2.size)
    have ha3 := ha2.below b3
    have hb3 := hb2.below b3
    have hc3 := hc2.below b3
    have k33 := k3.below b3
    clear m5 ha2 hb2 hc2 k3
    go_wp2_with fail
    refine (mul_any A1 D c1 cc r1 zs w3 k33 hc3 k4.1 hz k1 hcc (by omega) hccm).mono ?_
    rintro e w4 ⟨v3, er3, rfl, hans3, b4⟩
    rw [K5.out] at hans3
    rcases hans3 with ⟨hbad, _⟩ | ⟨_, rfl, hN3⟩
    · exact (Or.elim hbad (fun h => N1.out h) (fun h => Or.elim h (fun h => N3.out h) (fun h => N2.out h)) : False).elim
    obtain ⟨A3, c3, r3, rfl, p1, p2, p3, p4, p5⟩ := hN3
    have P5 := Lib.hid p5
    have B4 := B3.trans (b4.mono B3.size)
    have ha4 := ha3.below b4
    have hb4 := hb3.below b4
    have hc4 := hc3.below b4
    have k34 := k33.below b4
    have m34 := m3.below b4
    clear p5 ha3 hb3 hc3 k33 m3
    go_wp2_with fail
    refine (mul_any A D ca cc xs zs w4 ha4 hc4 hx hz hca hcc hcam hccm).mono ?_
    rintro e w5 ⟨v4, er4, rfl, hans4, b5⟩
    rcases hans4 with ⟨hbad, _⟩ | ⟨_, rfl, hN4⟩
    · exact (Or.elim hbad (fun h => N4.out h) (fun h => Or.elim h (fun h => N3.out h) (fun h => N6.out h)) : False).elim
    obtain ⟨A4, c4, r4, rfl, q1, q2, q3, q4, q5⟩ := hN4
    have Q5 := Lib.hid q5
    have B5 := B4.trans (b5.mono B4.size)
    have ha5 := ha4.below b5
    have hb5 := hb4.below b5
    have hc5 := hc4.below b5
    have k35 := k34.below b5
    have m35 := m34.below b5
    have p35 := p3.below b5
    clear q5 ha4 hb4 hc4 k34 m34 p3
    go_wp2_with fail
    refine (mul_any D B cc cb zs ys w5 hc5 hb5 hz hy hcc hcb hccm hcbm).mono ?_
    rintro e w6 ⟨v5, er5, rfl, hans5, b6⟩
    rcases hans5 with ⟨hbad, _⟩ | ⟨_, rfl, hN5⟩
    · exact (Or.elim hbad (fun h => N3.out h) (fun h => Or.elim h (fun h => N5.out h) (fun h => N7.out h)) : False).elim
    obtain ⟨A5, c5, r5, rfl, s1, s2, s3, s4, s5⟩ := hN5
    have S5 := Lib.hid s5
    have B6 := B5.trans (b6.mono B5.size)
    have ha6 := ha5.below b6
    have hb6 := hb5.below b6
    have k36 := k35.below b6
    have m36 := m35.below b6
    have p36 := p35.below b6
    have q36 := q3.below b6
    clear s5 ha5 hb5 hc5 k35 m35 p35 q3
    have hsum : val r4 + val r5 = (val xs + val ys) * val zs := by rw [Q5.out, S5.out, Nat.add_mul, Nat.mul_comm (val zs) (val ys)]
    have HS := Lib.hid hsum
    clear hsum
    go_wp2_with fail
    refine (add_any A4 A5 c4 c5 r4 r5 w6 q36 s3 q4.1 s4.1 q1 s1 (by omega) (by omega)).mono ?_
    rintro e w7 ⟨v6, er6, rfl, hans6, b7⟩
    rcases hans6 with ⟨hbad, _⟩ | ⟨_, rfl, hN6⟩
    · exact (Or.elim hbad (fun h => N2.out (h.mono (by rw [← HS.out]; omega))) (fun h => Or.elim h (fun h => N2.out (h.mono (by rw [← HS.out]; omega))) (fun h => N2.out (by rw [← HS.out]; exact h))) : False).elim
    obtain ⟨A6, c6, r6, rfl, t1, t2, t3, t4, t5⟩ := hN6
    have T5 := Lib.hid t5
    have B7 := B6.trans (b7.mono B6.size)
    have ha7 := ha6.below b7
    have hb7 := hb6.below b7
    have k37 := k36.below b7
    have m37 := m36.below b7
    have p37 := p36.below b7
    clear t5 ha6 hb6 k36 m36 p36 q36
    have hl1 : r1.length ≤ 1000 := Nat.le_trans (limb_len k4 (by rw [K5.out]; exact N1.out)) (by omega)
    go_wp2_with fail
    refine (sub_any A1 B c1 cb r1 ys w7 k37 hb7 k4.1 hy k1 hcb (by omega) hcbm hl1).mono ?_
    rintro e w8 ⟨v7, ok, rfl, hsub, b8⟩
    rw [K5.out] at hsub
    rcases hsub with ⟨hlt, _⟩ | ⟨_, rfl, hN7⟩
    · omega
    obtain ⟨A7, c7, r7, rfl, u1, u2, u3, u4, u5⟩ := hN7
    have B8 := B7.trans (b8.mono B7.size)
    have ha8 := ha7.below b8
    have k38 := k37.below b8
    have m38 := m37.below b8
    have p38 := p37.below b8
    have t38 := t3.below b8
    have s1 := same_any A1 A2 c1 c2 r1 r2 w8 k38 m38 (by omega)
    rw [same_of k4 m4 (by rw [K5.out, M5.out, Nat.add_comm])] at s1
    have hl3 : r3.length ≤ 64 := limb_len p4 (by rw [P5.out]; exact N2.out)
    have hl7 : r7.length ≤ 64 := limb_len u4 (by rw [u5]; intro h; exact N4.out (h.mono (by omega)))
    have s2 := fun w9 (b9 : Below w8.heap.size w8 w9) => same_any A3 A6 c3 c6 r3 r6 w9 (p38.below b9) (t38.below b9) (by omega)
    rw [same_of p4 t4 (by rw [P5.out, T5.out, HS.out])] at s2
    have s3 := fun w9 (b9 : Below w8.heap.size w8 w9) => cmp_any A7 A c7 ca r7 xs w9 (u3.below b9) (ha8.below b9) u4.1 hx u1 hca (by omega) hcam (by omega)
    rw [cmpN_eq (by omega)] at s3
    have S1 := Lib.hid s1
    have S2 := Lib.hid s2
    have S3 := Lib.hid s3
    clear s1 s2 s3 u5 ha7 hb7 k37 m37 p37 t3
    go_wp2_with fail
    refine S1.out.mono ?_
    rintro e w9 ⟨rfl, b9⟩
    go_wp2_with fail
    refine (S2.out _ b9).mono ?_
    rintro e w10 ⟨rfl, b10⟩
    have b910 := b9.trans (b10.mono b9.size)
    go_wp2_with fail
    refine (S3.out _ b910).mono ?_
    rintro e w11 ⟨rfl, b11⟩
    have B10 := B8.trans (b910.mono B8.size)
    go_wp2
    go_ret
    exact ⟨rfl, B10.trans (b11.mono B10.size)⟩

end LM
end Go.Proofs.YtkkogmgboehfdaaDoor
