/- The walk of the statement LimbMuls. -/
import Derived.Test.YtkkogmgboehfdaaDoorLimbLawAdds
import Derived.Test.YtkkogmgboehfdaaDoorLimbTimes
namespace Go.Proofs.YtkkogmgboehfdaaDoor
open Go.RowKit
namespace LM

set_option maxRecDepth 100000 in
set_option maxHeartbeats 4000000 in
theorem muls_walk (A B : Option Addr) (ca cb : Nat) (xs ys : List Nat) (w : World) (ha : Rd w A xs) (hb : Rd w B ys) (hx : Lm xs) (hy : Lm ys) (hna : A = none → xs.length = 0 ∧ ca = 0) (hnb : B = none → ys.length = 0 ∧ cb = 0)
    (htab : Lib.TabIs Tryd.prog w "internal/strconv.uint64pow10" .u64 Lib.pow10Tab) :
    Calls Tryd.prog 6 #[.slice A xs.length ca, .slice B ys.length cb] w fun e w' => e = .returned (.bool true) ∧ Below w.heap.size w w' := by
  have HAL := Lib.hid (alive_any w htab)
  clear htab
  by_cases h1 : 70 < xs.length
  · have hd : decide (70 < xs.length) = true := decide_eq_true h1
    go_enter Tryd.func6, Tryd.ntmps6
    go_wp2_with fail
    refine HAL.out.mono ?_
    rintro e w1 ⟨rfl, b1⟩
    go_wp2
    go_ret
    exact ⟨rfl, b1⟩
  by_cases h2 : 70 < ys.length
  · have hd : decide (70 < xs.length) = false := decide_eq_false h1
    have hd2 : decide (70 < ys.length) = true := decide_eq_true h2
    go_enter Tryd.func6, Tryd.ntmps6
    go_wp2_with fail
    refine HAL.out.mono ?_
    rintro e w1 ⟨rfl, b1⟩
    go_wp2
    go_ret
    exact ⟨rfl, b1⟩
  have hd : decide (70 < xs.length) = false := decide_eq_false h1
  have hd2 : decide (70 < ys.length) = false := decide_eq_false h2
  have hlx : xs.length ≤ 70 := by omega
  have hly : ys.length ≤ 70 := by omega
  have HNA := Lib.hid hna
  have HNB := Lib.hid hnb
  clear hna hnb h1 h2
  go_enter Tryd.func6, Tryd.ntmps6
  go_wp2_with fail
  refine HAL.out.mono ?_
  rintro e w1 ⟨rfl, b1⟩
  have ha1 := ha.below b1
  have hb1 := hb.below b1
  clear ha hb
  have tok1 : True := trivial
  go_wp2_with (first | (at_builtin; have _t := tok1; refine wp_copy rfl _ _ rfl w1 A ca xs ha1 (by omega) HNA.out rfl rfl ?_; intro g1 k1 w2 p1 p2 p3 p4 p5 p6; clear tok1) | (at_builtin; refine wp_copy rfl _ _ rfl w2 B cb ys (hb1.below p6) (by omega) HNB.out rfl rfl ?_; intro g2 k2 w3 q1 q2 q3 q4 q5 q6))
  have B3 : Below w.heap.size w w3 := (b1.trans (p6.mono b1.size)).trans (q6.mono (Nat.le_trans b1.size p6.size))
  have ha3 := (ha1.below p6).below q6
  have hb3 := (hb1.below p6).below q6
  have hx3 := p5.below q6
  clear ha1 hb1 p6 q6 p5 b1
  refine (mul_any (some ⟨g1, 0, none⟩) (some ⟨g2, 0, none⟩) k1 k2 xs ys w3 hx3 q5 hx hy p1 q1 p2 q2).mono ?_
  rintro e w4 ⟨v1, er1, rfl, hans, b4⟩
  have B4 := B3.trans (b4.mono B3.size)
  have ha4 := ha3.below b4
  have hb4 := hb3.below b4
  clear ha3 hb3 hx3 q5
  go_wp2_with fail
  refine (rtimes_any A B ca cb xs ys w4 ha4 hb4 hx hy (by omega) (by omega)).mono ?_
  rintro e w5 ⟨⟨v3, rfl, A3, k3, rs, rfl, r1, r2, r3, r4⟩, b5⟩
  have B5 := B4.trans (b5.mono B4.size)
  have ha5 := ha4.below b5
  have hb5 := hb4.below b5
  have hrl : rs.length ≤ xs.length + ys.length := times_len (n := 0) hx hy r3 (by rw [Nat.pow_zero, Nat.div_one]; exact r4)
  have R4 := Lib.hid r4
  clear ha4 hb4 r4
  by_cases nx : BIG (val xs)
  · rcases hans with ⟨_, rfl, rfl⟩ | ⟨hnb, _⟩
    case inr => exact absurd (.inl nx) hnb
    have HN := Lib.hid nx
    clear nx
    go_wp2_with fail
    refine (rbig_any A ca xs w5 ha5 hx (by omega) HNA.out).mono ?_
    rintro e w7 ⟨⟨bo, rfl, hbo⟩, b7⟩
    obtain rfl := hbo.2 HN.out
    clear hbo
    go_wp2
    go_ret
    exact ⟨rfl, B5.trans (b7.mono B5.size)⟩
  by_cases ny : BIG (val ys)
  · rcases hans with ⟨_, rfl, rfl⟩ | ⟨hnb, _⟩
    case inr => exact absurd (.inr (.inl ny)) hnb
    have HN := Lib.hid ny
    have HM := Lib.hid nx
    clear nx ny
    go_wp2_with fail
    refine (rbig_any A ca xs w5 ha5 hx (by omega) HNA.out).mono ?_
    rintro e w7 ⟨⟨bo, rfl, hbo⟩, c1⟩
    obtain rfl : bo = false := by cases bo; rfl; exact absurd (hbo.1 rfl) HM.out
    clear hbo
    go_wp2_with fail
    refine (rbig_any B cb ys w7 (hb5.below c1) hy (by omega) HNB.out).mono ?_
    rintro e w8 ⟨⟨bo, rfl, hbo⟩, c2⟩
    obtain rfl := hbo.2 HN.out
    have b7 := c1.trans (c2.mono c1.size)
    clear hbo c1 c2
    go_wp2
    go_ret
    exact ⟨rfl, B5.trans (b7.mono B5.size)⟩
  have HX := Lib.hid nx
  have HY := Lib.hid ny
  by_cases ns : BIG (val xs * val ys)
  · rcases hans with ⟨_, rfl, rfl⟩ | ⟨hnb, _⟩
    case inr => exact absurd (.inr (.inr ns)) hnb
    have HN := Lib.hid ns
    clear nx ny ns
    go_wp2_with fail
    refine (rbig_any A ca xs w5 ha5 hx (by omega) HNA.out).mono ?_
    rintro e w7 ⟨⟨bo, rfl, hbo⟩, c1⟩
    obtain rfl : bo = false := by cases bo; rfl; exact absurd (hbo.1 rfl) HX.out
    clear hbo
    go_wp2_with fail
    refine (rbig_any B cb ys w7 (hb5.below c1) hy (by omega) HNB.out).mono ?_
    rintro e w8 ⟨⟨bo, rfl, hbo⟩, c2⟩
    obtain rfl : bo = false := by cases bo; rfl; exact absurd (hbo.1 rfl) HY.out
    have c12 := c1.trans (c2.mono c1.size)
    clear hbo c1 c2
    go_wp2_with fail
    refine (rbig_any A3 k3 rs w8 (r2.below c12) r3.1 (by omega) r1).mono ?_
    rintro e w9 ⟨⟨bo, rfl, hbo⟩, c3⟩
    rw [R4.out] at hbo
    obtain rfl := hbo.2 HN.out
    have b7 := c12.trans (c3.mono c12.size)
    clear hbo c12 c3
    go_wp2
    go_ret
    exact ⟨rfl, B5.trans (b7.mono B5.size)⟩
  · rcases hans with ⟨hbad, _⟩ | ⟨_, rfl, hN1⟩
    · exact (Or.elim hbad (fun h => nx h) (fun h => Or.elim h (fun h => ny h) (fun h => ns h)) : False).elim
    obtain ⟨A1, c1', ss, rfl, u1, u2, u3, u4, u5⟩ := hN1
    have hsl : ss.length ≤ xs.length + ys.length := times_len (n := 0) hx hy u4 (by rw [Nat.pow_zero, Nat.div_one]; exact u5)
    have U5 := Lib.hid u5
    have HN := Lib.hid ns
    have hs5 := u3.below b5
    clear nx ny ns u5 u3
    go_wp2_with fail
    refine (rbig_any A ca xs w5 ha5 hx (by omega) HNA.out).mono ?_
    rintro e w7 ⟨⟨bo, rfl, hbo⟩, c1⟩
    obtain rfl : bo = false := by cases bo; rfl; exact absurd (hbo.1 rfl) HX.out
    clear hbo
    go_wp2_with fail
    refine (rbig_any B cb ys w7 (hb5.below c1) hy (by omega) HNB.out).mono ?_
    rintro e w8 ⟨⟨bo, rfl, hbo⟩, c2⟩
    obtain rfl : bo = false := by cases bo; rfl; exact absurd (hbo.1 rfl) HY.out
    have c12 := c1.trans (c2.mono c1.size)
    clear hbo c1 c2
    go_wp2_with fail
    refine (rbig_any A3 k3 rs w8 (r2.below c12) r3.1 (by omega) r1).mono ?_
    rintro e w9 ⟨⟨bo, rfl, hbo⟩, c3⟩
    rw [R4.out] at hbo
    obtain rfl : bo = false := by cases bo; rfl; exact absurd (hbo.1 rfl) HN.out
    have c13 := c12.trans (c3.mono c12.size)
    clear hbo c12 c3
    have sm := same_any A1 A3 c1' k3 ss rs w9 (hs5.below c13) (r2.below c13) (by omega)
    rw [same_of u4 r3 (by rw [U5.out, R4.out])] at sm
    go_wp2_with fail
    refine sm.mono ?_
    rintro e w10 ⟨rfl, c4⟩
    have b7 := c13.trans (c4.mono c13.size)
    clear sm c13 c4
    go_wp2
    go_ret
    exact ⟨rfl, B5.trans (b7.mono B5.size)⟩

end LM
end Go.Proofs.YtkkogmgboehfdaaDoor
