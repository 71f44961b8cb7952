/- The walk of the statement LimbDivs. -/
import Derived.Test.YtkkogmgboehfdaaDoorLimbLawAdds
import Derived.Test.YtkkogmgboehfdaaDoorLimbSplit
namespace Go.Proofs.YtkkogmgboehfdaaDoor
open Go.RowKit
namespace LM

set_option maxRecDepth 100000 in
set_option maxHeartbeats 4000000 in
theorem divs_walk (A B : Option Addr) (ca cb : Nat) (xs ys : List Nat) (w : World) (ha : Rd w A xs) (hb : Rd w B ys) (hx : Lm xs) (hy : Lm ys) (hna : A = none → xs.length = 0 ∧ ca = 0) (hnb : B = none → ys.length = 0 ∧ cb = 0)
    (htab : Lib.TabIs Tryd.prog w "internal/strconv.uint64pow10" .u64 Lib.pow10Tab) :
    Calls Tryd.prog 7 #[.slice A xs.length ca, .slice B ys.length cb] w fun e w' => e = .returned (.bool true) ∧ Below w.heap.size w w' := by
  have HAL := Lib.hid (alive_any w htab)
  clear htab
  by_cases h1 : 70 < xs.length
  · have hd : decide (70 < xs.length) = true := decide_eq_true h1
    go_enter Tryd.func7, Tryd.ntmps7
    go_wp2_with fail
    refine HAL.out.mono ?_
    rintro e w1 ⟨rfl, b1⟩
    go_wp2
    go_ret
    exact ⟨rfl, b1⟩
  by_cases h2 : 70 < ys.length
  · have hd : decide (70 < xs.length) = false := decide_eq_false h1
    have hd2 : decide (70 < ys.length) = true := decide_eq_true h2
    go_enter Tryd.func7, Tryd.ntmps7
    go_wp2_with fail
    refine HAL.out.mono ?_
    rintro e w1 ⟨rfl, b1⟩
    go_wp2
    go_ret
    exact ⟨rfl, b1⟩
  have hd : decide (70 < xs.length) = false := decide_eq_false h1
  have hd2 : decide (70 < ys.length) = false := decide_eq_false h2
  have hlx : xs.length ≤ 70 := by omega
  have hly : ys.length ≤ 70 := by omega
  have HNA := Lib.hid hna
  have HNB := Lib.hid hnb
  clear hna hnb h1 h2
  go_enter Tryd.func7, Tryd.ntmps7
  go_wp2_with fail
  refine HAL.out.mono ?_
  rintro e w1 ⟨rfl, b1⟩
  have ha1 := ha.below b1
  have hb1 := hb.below b1
  clear ha hb
  have tok1 : True := trivial
  go_wp2_with (first | (at_builtin; have _t := tok1; refine wp_copy rfl _ _ rfl w1 A ca xs ha1 (by omega) HNA.out rfl rfl ?_; intro g1 k1 w2 p1 p2 p3 p4 p5 p6; clear tok1) | (at_builtin; refine wp_copy rfl _ _ rfl w2 B cb ys (hb1.below p6) (by omega) HNB.out rfl rfl ?_; intro g2 k2 w3 q1 q2 q3 q4 q5 q6))
  have B3 : Below w.heap.size w w3 := (b1.trans (p6.mono b1.size)).trans (q6.mono (Nat.le_trans b1.size p6.size))
  have ha3 := (ha1.below p6).below q6
  have hb3 := (hb1.below p6).below q6
  have hx3 := p5.below q6
  clear ha1 hb1 p6 q6 p5 b1
  refine (div_any (some ⟨g1, 0, none⟩) (some ⟨g2, 0, none⟩) k1 k2 xs ys w3 hx3 q5 hx hy p1 q1 p2 q2).mono ?_
  rintro e w4 ⟨v1, v2, er1, rfl, b4, hans⟩
  have B4 := B3.trans (b4.mono B3.size)
  have ha4 := ha3.below b4
  have hb4 := hb3.below b4
  have s1 := same_any (some ⟨g1, 0, none⟩) A k1 ca xs xs w4 (hx3.below b4) ha4 (by omega)
  have s2 := fun W (b : Below w4.heap.size w4 W) => same_any (some ⟨g2, 0, none⟩) B k2 cb ys ys W ((q5.below b4).below b) (hb4.below b) (by omega)
  rw [sameB_self] at s1 s2
  have S1 := Lib.hid s1
  have S2 := Lib.hid s2
  clear ha3 hb3 hx3 q5 s1 s2
  go_wp2_with fail
  refine S1.out.mono ?_
  rintro e w5 ⟨rfl, b5⟩
  go_wp2_with fail
  refine (S2.out _ b5).mono ?_
  rintro e w6 ⟨rfl, b6⟩
  have b56 := b5.trans (b6.mono b5.size)
  have B6 := B4.trans (b56.mono B4.size)
  have ha6 := ha4.below b56
  have hb6 := hb4.below b56
  clear ha4 hb4
  by_cases nx : BIG (val xs)
  · rcases hans with ⟨_, rfl, rfl, rfl⟩ | ⟨hnb, _⟩ | ⟨hnb, _⟩
    case inr.inl => exact absurd nx hnb
    case inr.inr => exact absurd nx hnb
    have HN := Lib.hid nx
    clear nx
    go_wp2_with fail
    refine (rbig_any A ca xs w6 ha6 hx (by omega) HNA.out).mono ?_
    rintro e w7 ⟨⟨bo, rfl, hbo⟩, b7⟩
    obtain rfl := hbo.2 HN.out
    clear hbo
    go_wp2
    go_ret
    exact ⟨rfl, B6.trans (b7.mono B6.size)⟩
  by_cases ny : BIG (val ys)
  · rcases hans with ⟨_, rfl, rfl, rfl⟩ | ⟨_, hnb, _⟩ | ⟨_, hnb, _⟩
    case inr.inl => exact absurd ny hnb
    case inr.inr => exact absurd ny hnb
    have HN := Lib.hid ny
    have HM := Lib.hid nx
    clear nx ny
    go_wp2_with fail
    refine (rbig_any A ca xs w6 ha6 hx (by omega) HNA.out).mono ?_
    rintro e w7 ⟨⟨bo, rfl, hbo⟩, c1⟩
    obtain rfl : bo = false := by cases bo; rfl; exact absurd (hbo.1 rfl) HM.out
    clear hbo
    go_wp2_with fail
    refine (rbig_any B cb ys w7 (hb6.below c1) hy (by omega) HNB.out).mono ?_
    rintro e w8 ⟨⟨bo, rfl, hbo⟩, c2⟩
    obtain rfl := hbo.2 HN.out
    have b7 := c1.trans (c2.mono c1.size)
    clear hbo c1 c2
    go_wp2
    go_ret
    exact ⟨rfl, B6.trans (b7.mono B6.size)⟩
  have HX := Lib.hid nx
  have HY := Lib.hid ny
  go_wp2_with fail
  refine (rbig_any A ca xs w6 ha6 hx (by omega) HNA.out).mono ?_
  rintro e w7 ⟨⟨bo, rfl, hbo⟩, c1⟩
  obtain rfl : bo = false := by cases bo; rfl; exact absurd (hbo.1 rfl) HX.out
  clear hbo
  go_wp2_with fail
  refine (rbig_any B cb ys w7 (hb6.below c1) hy (by omega) HNB.out).mono ?_
  rintro e w8 ⟨⟨bo, rfl, hbo⟩, c2⟩
  obtain rfl : bo = false := by cases bo; rfl; exact absurd (hbo.1 rfl) HY.out
  have c12 := c1.trans (c2.mono c1.size)
  have B8 := B6.trans (c12.mono B6.size)
  have ha8 := ha6.below c12
  have hb8 := hb6.below c12
  clear hbo c1 c2
  go_wp2_with fail
  refine (rtrim_any B cb ys w8 hb8 hy (by omega) HNB.out).mono ?_
  rintro e w9 ⟨⟨v5, rfl, A5, k5, fs, rfl, f1, f2, f3, f4⟩, b9⟩
  have B9 := B8.trans (b9.mono B8.size)
  rcases Nat.eq_zero_or_pos (val ys) with h0 | h0
  · rcases hans with ⟨hbad, _⟩ | ⟨_, _, _, rfl, rfl, rfl⟩ | ⟨_, _, hp, _⟩
    · exact (Or.elim hbad (fun h => nx h) (fun h => ny h) : False).elim
    · have hf0 : fs = [] := by
        rw [← f3.2]; exact trim_nil_iff.2 (f4.trans h0)
      subst hf0
      clear nx ny h0 f4
      go_wp2
      go_ret
      exact ⟨rfl, B9⟩
    · omega
  · rcases hans with ⟨hbad, _⟩ | ⟨_, _, hz, _⟩ | ⟨_, _, _, rfl, hq, hr⟩
    · exact (Or.elim hbad (fun h => nx h) (fun h => ny h) : False).elim
    · omega
    obtain ⟨A1, c1', qs, rfl, u1, u2, u3, u4, u5⟩ := hq
    obtain ⟨A2, c2', rs, rfl, t1, t2, t3, t4, t5⟩ := hr
    have hfl : fs.length ≠ 0 := fun h => by
      rw [List.eq_nil_of_length_eq_zero h] at f4
      have e : val ([] : List Nat) = 0 := rfl
      omega
    have hfz : ((fs.length : Int) == 0) = false := by rw [beq_eq_false_iff_ne]; omega
    have hql : qs.length ≤ xs.length := num_len u4 u5 (Nat.lt_of_le_of_lt (Nat.div_le_self _ _) (val_lt hx))
    have hrl : rs.length ≤ ys.length := num_len t4 t5 (Nat.lt_trans (Nat.mod_lt _ h0) (val_lt hy))
    have hq8 := ((u3.below b56).below c12).below b9
    have hr8 := ((t3.below b56).below c12).below b9
    have H0 := Lib.hid h0
    have U5 := Lib.hid u5
    have T5 := Lib.hid t5
    clear nx ny h0 f4 u5 t5 hfl u3 t3
    go_wp2_with fail
    refine (rsplit_any A B ca cb xs ys w9 (ha8.below b9) (hb8.below b9) hx hy (by omega) (by omega) H0.out).mono ?_
    rintro e w10 ⟨⟨v6, v7, rfl, ⟨A6, c6, q6, rfl, d1, d2, d3, d4⟩, ⟨A7, c7, r7, rfl, e1, e2, e3, e4⟩⟩, b10⟩
    have B10 := B9.trans (b10.mono B9.size)
    have sm1 := same_any A1 A6 c1' c6 qs q6 w10 (hq8.below b10) d2 (by omega)
    rw [same_of u4 d3 (by rw [U5.out, d4])] at sm1
    have sm2 := fun W (b : Below w10.heap.size w10 W) => same_any A2 A7 c2' c7 rs r7 W ((hr8.below b10).below b) (e2.below b) (by omega)
    rw [same_of t4 e3 (by rw [T5.out, e4])] at sm2
    have SM1 := Lib.hid sm1
    have SM2 := Lib.hid sm2
    clear sm1 sm2 d4 e4
    go_wp2_with fail
    refine SM1.out.mono ?_
    rintro e w11 ⟨rfl, b11⟩
    go_wp2_with fail
    refine (SM2.out _ b11).mono ?_
    rintro e w12 ⟨rfl, b12⟩
    have b1112 := b11.trans (b12.mono b11.size)
    go_wp2
    go_ret
    exact ⟨rfl, B10.trans (b1112.mono B10.size)⟩

end LM
end Go.Proofs.YtkkogmgboehfdaaDoor
