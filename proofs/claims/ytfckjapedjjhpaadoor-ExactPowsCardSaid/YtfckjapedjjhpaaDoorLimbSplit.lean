/- Walks: the document's answer Split. -/
import Derived.Test.YtfckjapedjjhpaaDoorLimbTimes
import Derived.Test.YtfckjapedjjhpaaDoorLimbDivAny
namespace Go.Proofs.YtfckjapedjjhpaaDoor
open Go.RowKit
namespace LM

theorem divmod_eq {x y q r : Nat} (h : x = y * q + r) (hr : r < y) : q = x / y ∧ r = x % y := by
  subst h
  constructor
  · rw [Nat.mul_add_div (by omega), Nat.div_eq_of_lt hr, Nat.add_zero]
  · rw [Nat.mul_add_mod, Nat.mod_eq_of_lt hr]

/-- where the loop stands when the bits from n on are done -/
def SpRel (w : World) (xs ys : List Nat) (vq vr i : Value) (wr : World) : Prop :=
  ∃ n q r : Nat, n ≤ 32 * xs.length ∧ i = .int .i64 ((n : Int) - 1) ∧ NumR wr vq q ∧ NumR wr vr r ∧ val xs / 2 ^ n = val ys * q + r ∧ r < val ys ∧ Below w.heap.size w wr

theorem quo_len {xs ys qs : List Nat} {n q r : Nat} (hx : Lm xs) (hy : 0 < val ys) (hq : Can qs) (hv : val qs = q) (h : val xs / 2 ^ n = val ys * q + r) : qs.length ≤ xs.length := by
  refine num_len hq hv (Nat.lt_of_le_of_lt ?_ (val_lt hx))
  have h1 := Nat.div_le_self (val xs) (2 ^ n)
  have h2 := Nat.le_mul_of_pos_left q hy
  omega
theorem rest_len {ys rs : List Nat} {r : Nat} (hy : Lm ys) (hr : Can rs) (hv : val rs = r) (h : r < val ys) : rs.length ≤ ys.length := num_len hr hv (Nat.lt_trans h (val_lt hy))

set_option maxRecDepth 100000 in
set_option maxHeartbeats 2000000 in
theorem rsplit_any (A B : Option Addr) (ca cb : Nat) (xs ys : List Nat) (w : World) (ha : Rd w A xs) (hb : Rd w B ys) (hx : Lm xs) (hy : Lm ys) (hlx : xs.length ≤ 1000) (hly : ys.length ≤ 1000) (hy0 : 0 < val ys) :
    Calls Tryd.prog 58 #[.slice A xs.length ca, .slice B ys.length cb] w fun e w' => (∃ q r, e = .returned (.tuple #[q, r]) ∧ NumR w' q (val xs / val ys) ∧ NumR w' r (val xs % val ys)) ∧ Below w.heap.size w w' := by
  have HY0 := Lib.hid hy0
  have htop := Lib.hid (bit_top hx)
  have l1 : Lm [1] := lm_of (by decide)
  clear hy0
  go_enter Tryd.func58, Tryd.ntmps58
  go_wp2
  go_loopw [6, 7, 8] (fun q r i wr => SpRel w xs ys q r i wr) (fun _ _ i _ => (intOf i + 1).toNat)
  case atStart =>
    refine ⟨32 * xs.length, 0, 0, Nat.le_refl _, by congr 1, ⟨_, 0, [], rfl, (fun h => by cases h), Rd.nil, can_nil, rfl⟩, ⟨_, 0, [], rfl, (fun h => by cases h), Rd.nil, can_nil, rfl⟩, by rw [htop.out]; rfl, HY0.out, ?_⟩
    exact ((Below.refl _ _).alloc (Nat.le_refl _) _).alloc (by simp) _
  case round =>
    obtain ⟨n, q, r, hn, rfl, hnq, hnr, hqr, hrl, hbe⟩ := hrel
    have hra := ha.below hbe
    have hrb := hb.below hbe
    have hbs := hbe.size
    have HRL := Lib.hid hrl
    have HQR := Lib.hid hqr
    rcases n with _ | m
    · rw [Nat.pow_zero, Nat.div_one] at hqr
      obtain ⟨e1, e2⟩ := divmod_eq hqr hrl
      rw [e1] at hnq
      rw [e2] at hnr
      have HQ := Lib.hid hnq
      have HR := Lib.hid hnr
      clear hqr hrl e1 e2 hnq hnr
      go_wp2
      go_ret2
      exact ⟨⟨_, _, rfl, HQ.out, HR.out⟩, hbe⟩
    · rw [show ((m + 1 : Nat) : Int) - 1 = (m : Int) from by omega]
      have HBV := Lib.hid (bit_val hx (n := m) (by omega))
      obtain ⟨A1, c1, qs, rfl, hqz, hq1, hcq, hvq⟩ := hnq
      obtain ⟨A2, c2, rs, rfl, hrz, hr1, hcr, hvr⟩ := hnr
      have hql := quo_len hx HY0.out hcq hvq hqr
      have hrsl := rest_len hy hcr hvr hrl
      obtain ⟨b2, o2, rfl, _, hcell⟩ := hra.at_ (k := m / 32) (by omega)
      have HVQ := Lib.hid hvq
      have HVR := Lib.hid hvr
      clear hvq hvr hqr hrl
      go_wp2_with fail
      refine (rplus_any A2 A2 c2 c2 rs rs wr hr1 hr1 hcr.1 hcr.1 (by omega) (by omega)).mono ?_
      rintro e w1 ⟨⟨v1, rfl, A3, c3, r2, rfl, hz3, h3, hc3, hv3⟩, b1⟩
      have hl3 := plus_len hc3 hcr.1 hcr.1 hv3
      rw [Nat.max_self] at hl3
      have HV3 := Lib.hid hv3
      clear hv3
      go_wp2_with fail
      refine (rplus_any A1 A1 c1 c1 qs qs w1 (hq1.below b1) (hq1.below b1) hcq.1 hcq.1 (by omega) (by omega)).mono ?_
      rintro e w2 ⟨⟨v2, rfl, A4, c4, q2, rfl, hz4, h4, hc4, hv4⟩, b2'⟩
      have hl4 := plus_len hc4 hcq.1 hcq.1 hv4
      rw [Nat.max_self] at hl4
      have HV4 := Lib.hid hv4
      clear hv4
      have b12 := b1.trans (b2'.mono b1.size)
      have hcell1 : w2.cell? ⟨b2, o2 + m / 32, none⟩ = some (.int .u32 ((xs[m / 32]?.getD 0 : Nat) : Int)) := by
        obtain ⟨b3, o3, e3, _, h3⟩ := (hra.below b12).at_ (k := m / 32) (by omega)
        cases e3; exact h3
      have hbit := bit_and hx m
      have hb1le := bit_le xs m
      have h32 := h3.below b2'
      have hb2 := hrb.below b12
      have hbe2 : Below w.heap.size w w2 := hbe.trans (b12.mono hbs)
      generalize bitAt xs m = bt at *
      have hbt : bt = 0 ∨ bt = 1 := by omega
      clear b1 b2' b12 hra hrb hcell h3
      have HQR2 : Hid (val xs / 2 ^ (m + 1) = val ys * q + r) := HQR
      clear HQR
      rcases hbt with rfl | rfl
      · have hv5 : val r2 = 2 * r + 0 := by rw [HV3.out, HVR.out]; omega
        have HV5 := Lib.hid hv5
        clear hv5
        have h5 := h32
        have hc5 := hc3
        have hz5 := hz3
        have hb3 := hb2
        have h43 := h4
        have hbe3 := hbe2
        have hl5 : r2.length ≤ ys.length + 2 := by omega
        clear h32 hb2
        obtain ⟨s1, s2⟩ := split_step (b := 0) HQR2.out HRL.out (by decide)
        have S1 := Lib.hid s1
        have S2 := Lib.hid s2
        clear s1 s2
        by_cases hge : val ys ≤ 2 * r + 0
        · have hcm : decide (0 ≤ cmpN (val r2) (val ys)) = true := by
            unfold cmpN
            rw [HV5.out, if_neg (by omega)]
            split <;> rfl
          obtain ⟨t1, t2⟩ := S1.out hge
          have T1 := Lib.hid t1
          have T2 := Lib.hid t2
          have HGE := Lib.hid hge
          clear t1 t2 hge
          go_wp2_with fail
          refine (rcmp_any A3 B c3 cb r2 ys w2 h5 hb3 hc5.1 hy (by omega) (by omega)).mono ?_
          rintro e w4 ⟨rfl, rfl⟩
          go_wp2_with fail
          refine (rminus_any A3 B c3 cb r2 ys w2 h5 hb3 hc5.1 hy (by omega) (by omega) (by rw [HV5.out]; exact HGE.out)).mono ?_
          rintro e w4 ⟨⟨v6, rfl, A6, c6, r6, rfl, hz6, h6, hc6, hv6⟩, b4⟩
          rw [HV5.out] at hv6
          have HV6 := Lib.hid hv6
          clear hv6
          go_wp2_with fail
          refine (rplus_any A4 (some ⟨w4.heap.size, 0, none⟩) c4 1 q2 [1] (w4.alloc (.cells #[.int .u32 1] 51)) ((h43.below b4).alloc _) (rd_new w4 [1]) hc4.1 l1 (by omega) (by decide)).mono ?_
          rintro e w5 ⟨⟨v7, rfl, A7, c7, q7, rfl, hz7, h7, hc7, hv7⟩, b5⟩
          rw [show val [1] = 1 from rfl, HV4.out, HVQ.out] at hv7
          have HV7 := Lib.hid hv7
          clear hv7
          have B4 : Below w.heap.size w w4 := hbe3.trans (b4.mono hbe3.size)
          have hal : Below w.heap.size w (w4.alloc (.cells #[.int .u32 1] 51)) := B4.alloc B4.size _
          go_wp2
          go_roundw
          case rel =>
            refine ⟨m, 2 * q + 1, 2 * r + 0 - val ys, by omega, rfl, ⟨A7, c7, q7, rfl, hz7, h7, hc7, by rw [HV7.out]; omega⟩, ⟨A6, c6, r6, rfl, hz6, (h6.alloc _).below b5, hc6, HV6.out⟩, by rw [HBV.out]; exact T1.out, T2.out, hal.trans (b5.mono hal.size)⟩
          case measure => simp [intOf]
        · have hcm : decide (0 ≤ cmpN (val r2) (val ys)) = false := by
            rw [HV5.out, cmpN_lt (by omega)]; rfl
          have T3 := Lib.hid (S2.out (by omega))
          have HGE := Lib.hid (Nat.lt_of_not_le hge)
          clear hge
          go_wp2_with fail
          refine (rcmp_any A3 B c3 cb r2 ys w2 h5 hb3 hc5.1 hy (by omega) (by omega)).mono ?_
          rintro e w4 ⟨rfl, rfl⟩
          go_wp2
          go_roundw
          case rel =>
            refine ⟨m, 2 * q, 2 * r + 0, by omega, rfl, ⟨A4, c4, q2, rfl, hz4, h43, hc4, by rw [HV4.out, HVQ.out]; omega⟩, ⟨A3, c3, r2, rfl, hz5, h5, hc5, HV5.out⟩, by rw [HBV.out]; exact T3.out, HGE.out, hbe3⟩
          case measure => simp [intOf]
      · have hbe2a := hbe2.alloc hbe2.size (.cells #[.int .u32 1] 51)
        go_wp2_with fail
        refine (rplus_any A3 (some ⟨w2.heap.size, 0, none⟩) c3 1 r2 [1] (w2.alloc (.cells #[.int .u32 1] 51)) (h32.alloc _) (rd_new w2 [1]) hc3.1 l1 (by omega) (by decide)).mono ?_
        rintro e w3 ⟨⟨v5, rfl, A5, c5, rr, rfl, hz5, h5, hc5, hv5⟩, b3⟩
        have hl5a := plus_len hc5 hc3.1 l1 hv5
        have hl5 : rr.length ≤ ys.length + 2 := by
          have e1 : [1].length = 1 := rfl
          have := Nat.max_le.2 ⟨hl3, (by rw [e1]; omega : [1].length ≤ rs.length + 1)⟩
          omega
        rw [show val [1] = 1 from rfl, HV3.out, HVR.out] at hv5
        have HV5 := Lib.hid (show val rr = 2 * r + 1 by omega)
        have hb3 := (hb2.alloc (.cells #[.int .u32 1] 51)).below b3
        have h43 := (h4.alloc (.cells #[.int .u32 1] 51)).below b3
        have hbe3 := hbe2a.trans (b3.mono hbe2a.size)
        clear hv5 hbe2a hl5a
        obtain ⟨s1, s2⟩ := split_step (b := 1) HQR2.out HRL.out (by decide)
        have S1 := Lib.hid s1
        have S2 := Lib.hid s2
        clear s1 s2
        by_cases hge : val ys ≤ 2 * r + 1
        · have hcm : decide (0 ≤ cmpN (val rr) (val ys)) = true := by
            unfold cmpN
            rw [HV5.out, if_neg (by omega)]
            split <;> rfl
          obtain ⟨t1, t2⟩ := S1.out hge
          have T1 := Lib.hid t1
          have T2 := Lib.hid t2
          have HGE := Lib.hid hge
          clear t1 t2 hge
          go_wp2_with fail
          refine (rcmp_any A5 B c5 cb rr ys w3 h5 hb3 hc5.1 hy (by omega) (by omega)).mono ?_
          rintro e w4 ⟨rfl, rfl⟩
          go_wp2_with fail
          refine (rminus_any A5 B c5 cb rr ys w3 h5 hb3 hc5.1 hy (by omega) (by omega) (by rw [HV5.out]; exact HGE.out)).mono ?_
          rintro e w4 ⟨⟨v6, rfl, A6, c6, r6, rfl, hz6, h6, hc6, hv6⟩, b4⟩
          rw [HV5.out] at hv6
          have HV6 := Lib.hid hv6
          clear hv6
          go_wp2_with fail
          refine (rplus_any A4 (some ⟨w4.heap.size, 0, none⟩) c4 1 q2 [1] (w4.alloc (.cells #[.int .u32 1] 51)) ((h43.below b4).alloc _) (rd_new w4 [1]) hc4.1 l1 (by omega) (by decide)).mono ?_
          rintro e w5 ⟨⟨v7, rfl, A7, c7, q7, rfl, hz7, h7, hc7, hv7⟩, b5⟩
          rw [show val [1] = 1 from rfl, HV4.out, HVQ.out] at hv7
          have HV7 := Lib.hid hv7
          clear hv7
          have B4 : Below w.heap.size w w4 := hbe3.trans (b4.mono hbe3.size)
          have hal : Below w.heap.size w (w4.alloc (.cells #[.int .u32 1] 51)) := B4.alloc B4.size _
          go_wp2
          go_roundw
          case rel =>
            refine ⟨m, 2 * q + 1, 2 * r + 1 - val ys, by omega, rfl, ⟨A7, c7, q7, rfl, hz7, h7, hc7, by rw [HV7.out]; omega⟩, ⟨A6, c6, r6, rfl, hz6, (h6.alloc _).below b5, hc6, HV6.out⟩, by rw [HBV.out]; exact T1.out, T2.out, hal.trans (b5.mono hal.size)⟩
          case measure => simp [intOf]
        · have hcm : decide (0 ≤ cmpN (val rr) (val ys)) = false := by
            rw [HV5.out, cmpN_lt (by omega)]; rfl
          have T3 := Lib.hid (S2.out (by omega))
          have HGE := Lib.hid (Nat.lt_of_not_le hge)
          clear hge
          go_wp2_with fail
          refine (rcmp_any A5 B c5 cb rr ys w3 h5 hb3 hc5.1 hy (by omega) (by omega)).mono ?_
          rintro e w4 ⟨rfl, rfl⟩
          go_wp2
          go_roundw
          case rel =>
            refine ⟨m, 2 * q, 2 * r + 1, by omega, rfl, ⟨A4, c4, q2, rfl, hz4, h43, hc4, by rw [HV4.out, HVQ.out]; omega⟩, ⟨A5, c5, rr, rfl, hz5, h5, hc5, HV5.out⟩, by rw [HBV.out]; exact T3.out, HGE.out, hbe3⟩
          case measure => simp [intOf]

end LM
end Go.Proofs.YtfckjapedjjhpaaDoor
