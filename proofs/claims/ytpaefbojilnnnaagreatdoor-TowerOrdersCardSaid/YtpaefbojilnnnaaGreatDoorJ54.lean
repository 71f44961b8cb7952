/- Walks: order and sameness of two numbers, second part: floating ones; sameness; an int's number. -/
import Derived.Test.YtpaefbojilnnnaaGreatDoorJ29
import Derived.Test.YtpaefbojilnnnaaGreatDoorJ27
import Derived.Test.YtpaefbojilnnnaaGreatDoorJ46
import Derived.Test.YtpaefbojilnnnaaGreatDoorJ18
import Derived.Deep.RegionHeld3
import Derived.LoopTactic
import Derived.Deep.LoopGhost
import Derived.Test.YtpaefbojilnnnaaGreatDoorJ40
import Derived.Test.YtpaefbojilnnnaaGreatDoorJ51
import Derived.Test.YtpaefbojilnnnaaGreatDoorJ55
namespace Go.Proofs.YtpaefbojilnnnaaGreatDoor
open Go Go.RowKit
namespace LM
set_option linter.unusedVariables false

set_option maxRecDepth 100000 in
set_option maxHeartbeats 1000000 in
theorem rcmpF_any (s t : Bool) (A B : Option Addr) (n ca m cb : Nat) (w : World) (x y : Int) (ha : IntR w (.agg #[.bool s, .slice A n ca]) x) (hb : IntR w (.agg #[.bool t, .slice B m cb]) y) (hx : FitI x) (hy : FitI y) (hxy : FitI (x + -y)) :
    Calls Tryz.prog 31 #[.agg #[.bool s, .slice A n ca], .agg #[.bool t, .slice B m cb]] w fun e w' => e = .returned (.int .i64 (cmpI x y)) ∧ Below w.heap.size w w' := by
  obtain ⟨hb0, x0, y0⟩ := newp2 w s t A B n ca m cb
  have HB1 := Lib.hid hb0.drew
  have X1 := Lib.hid x0.drew
  have Y1 := Lib.hid y0.drew
  have VX1 := Lib.hid (ha.keep hb0).drew
  have H1 := Lib.hid (rneg_int (hb.keep hb0).drew hy)
  obtain ⟨hbn, xn, yn, dn⟩ := new3 w s t A B n ca m cb
  have H1p := Lib.hid (rneg_int (hb.keep hbn).drew hy)
  have HBN := Lib.hid hbn.drew
  have XN := Lib.hid xn.drew
  have YN := Lib.hid yn.drew
  have DN := Lib.hid dn.drew
  have VXN := Lib.hid (ha.keep hbn).drew
  have NX := Lib.hid hx
  have NY := Lib.hid hy
  have HXY := Lib.hid hxy
  clear hb0 x0 y0 ha hb hx hy hxy hbn xn yn dn
  go_enter Tryz.func31, Tryz.ntmps31
  go_wp2
  go_region_held3 (fun W => W.cell? ⟨w.heap.size, 0, none⟩ = some (.bool s) ∧ W.cell? ⟨w.heap.size, 1, none⟩ = some (.slice A n ca) ∧ W.cell? ⟨w.heap.size + 1, 0, none⟩ = some (.bool t) ∧ W.cell? ⟨w.heap.size + 1, 1, none⟩ = some (.slice B m cb))
    ((refine ⟨Bx.c0 (A := A) (n := n) (c := ca) ?_, Bx.c1 (b := s) ?_, Bx.c0 (A := B) (n := m) (c := cb) ?_, Bx.c1 (b := t) ?_⟩ <;> (repeat' (first | (with_reducible exact Hid.out (by assumption)) | (with_reducible refine Bx.alloc ?_ _) | (with_reducible refine Bx.set ?_ _ (by simp <;> omega))))))
    (first
      | (go_at_call 83; (with_reducible refine H1.out.mono ?_); rintro e w2 ⟨s2, A2, n2, c2, rfl, hv2, hb2⟩; have X2 := Lib.hid (X1.out.below hb2); have Y2 := Lib.hid (Y1.out.below hb2); have ly2 := Y2.out.lt; have HB2 := Lib.hid (HB1.out.trans (hb2.mono HB1.out.size)); have H2 := Lib.hid (rplus_int (VX1.out.keep hb2) hv2 NX.out (fit_neg NY.out)); have H2p := Lib.hid (rplus_int ((VX1.out.keep hb2).alloc (.cells #[.bool false, .slice none 0 0] 38)) (hv2.alloc (.cells #[.bool false, .slice none 0 0] 38)) NX.out (fit_neg NY.out)); clear hv2 hb2)
      | (go_at_call 83; (with_reducible refine H1p.out.mono ?_); rintro e w2 ⟨s2, A2, n2, c2, rfl, hv2, hb2⟩; have X2 := Lib.hid (XN.out.below hb2); have Y2 := Lib.hid (YN.out.below hb2); have D2 := Lib.hid (DN.out.below hb2); have HB2 := Lib.hid (HBN.out.trans (hb2.mono HBN.out.size)); have H2q := Lib.hid (rplus_int (VXN.out.keep hb2) hv2 NX.out (fit_neg NY.out)); clear hv2 hb2)
      | (go_at_call 82; (with_reducible refine H2.out.mono ?_); rintro e w5 ⟨s5, A5, n5, c5, rfl, hv5, hb5⟩; have X5 := Lib.hid (X2.out.below hb5); have Y5 := Lib.hid (Y2.out.below hb5); have HB5 := Lib.hid (HB2.out.trans (hb5.mono HB2.out.size)); have HV5 := Lib.hid hv5; clear hv5 hb5)
      | (go_at_call 82; (with_reducible refine H2p.out.mono ?_); rintro e w5 ⟨s5, A5, n5, c5, rfl, hv5, hb5⟩; have X5 := Lib.hid ((X2.out.alloc _).below hb5); have Y5 := Lib.hid ((Y2.out.alloc _).below hb5); have hbn := HB2.out.alloc HB2.out.size (.cells #[.bool false, .slice none 0 0] 38); have D5 := Lib.hid ((Bx.new w2 false none 0 0).below hb5); have HB5 := Lib.hid (hbn.trans (hb5.mono hbn.size)); have HG := Lib.hid HB2.out.size; have HV5 := Lib.hid hv5; obtain ⟨q0, q1, z0, z1, zl⟩ := D5.out.facts; clear hv5 hb5 hbn)
      | (go_at_call 82; (with_reducible refine H2q.out.mono ?_); rintro e w5 ⟨s5, A5, n5, c5, rfl, hv5, hb5⟩; have X5 := Lib.hid (X2.out.below hb5); have Y5 := Lib.hid (Y2.out.below hb5); have D5 := Lib.hid (D2.out.below hb5); have HB5 := Lib.hid (HB2.out.trans (hb5.mono HB2.out.size)); have HV5 := Lib.hid hv5; obtain ⟨q0, q1, z0, z1, zl⟩ := D5.out.facts; clear hv5 hb5))
  all_goals
    first
    | (obtain ⟨W6, hW6, Z6, hb6, -, -, -, -⟩ := stored_world D5.out HB5.out (by first | omega | exact HG.out) s5 A5 n5 c5
       rw [hW6]
       have HE := Lib.hid hb6
       clear q0 q1 z0 z1 zl hW6
       obtain ⟨q0, q1, z0, z1, zl⟩ := Z6.facts
       clear Z6 hb6)
    | have HE := Lib.hid (HB5.out.alloc HB5.out.size (.cells #[.bool s5, .slice A5 n5 c5] 38))
    have hp := HV5.out.parts
    have hn := hp.2.2.1 HXY.out
    have HN := Lib.hid hp.2.1
    have HS := Lib.hid hp.1
    clear hp
    rcases Int.lt_trichotomy x y with h | h | h
    · have h0 : ((n5 : Int) == 0) = false := by
        have := HN.out
        simp
        omega
      have hs : s5 = true := by rw [HS.out]; exact decide_eq_true (by omega)
      have HH := Lib.hid h
      clear h
      subst hs
      go_wp2
      go_ret
      exact ⟨by first | (rw [cmpI_lt HH.out]; done) | (rw [cmpI_lt HH.out]; rfl), HE.out⟩
    · have h0 : ((n5 : Int) == 0) = true := by
        have := HN.out
        simp
        omega
      have HH := Lib.hid h
      clear h
      go_wp2
      go_ret
      exact ⟨by first | (rw [cmpI_eq HH.out]; done) | (rw [cmpI_eq HH.out]; rfl), HE.out⟩
    · have h0 : ((n5 : Int) == 0) = false := by
        have := HN.out
        simp
        omega
      have hs : s5 = false := by rw [HS.out]; exact decide_eq_false (by omega)
      have HH := Lib.hid h
      clear h
      subst hs
      go_wp2
      go_ret
      exact ⟨by first | (rw [cmpI_gt HH.out]; done) | (rw [cmpI_gt HH.out]; rfl), HE.out⟩

/-- where the doubling stands -/
def DbRel (w wr : World) (V n : Nat) (l kk : Value) : Prop := ∃ k A c r, k ≤ n ∧ kk = .int .i64 (k : Int) ∧ l = .slice A (List.length r) c ∧ Rd wr A r ∧ Can r ∧ val r = V * 2 ^ k ∧ Below w.heap.size w wr
theorem fitN_len {r : List Nat} (hc : Can r) (h : val r < 4294967296 ^ 130) : r.length ≤ 130 := by
  rcases Nat.lt_or_ge 130 r.length with h1 | h1
  · have := (can_len hc 130).1 h1
    omega
  · exact h1

set_option maxRecDepth 100000 in
set_option maxHeartbeats 2000000 in
theorem rdoubled_any (A : Option Addr) (c : Nat) (xs : List Nat) (n : Nat) (w : World) (ha : Rd w A xs) (hx : Can xs) (hn : n ≤ 5000) (hf : val xs * 2 ^ n < 4294967296 ^ 130) :
    Calls Tryz.prog 76 #[.slice A xs.length c, .int .i64 (n : Int)] w fun e w' => ∃ A1 c1 r, e = .returned (.slice A1 (List.length r) c1) ∧ Rd w' A1 r ∧ Can r ∧ val r = val xs * 2 ^ n ∧ Below w.heap.size w w' := by
  have P1 := Lib.hid fun A c (r : List Nat) W (h : Rd W A r) (hc : Can r) (hl : r.length ≤ 130) => rplus_any A A c c r r W h h hc.1 hc.1 (by omega) (by omega)
  have HF := Lib.hid hf
  have H0 : Hid (DbRel w w (val xs) n (.slice A xs.length c) (.int .i64 0)) := Lib.hid ⟨0, A, c, xs, Nat.zero_le _, rfl, rfl, ha, hx, by rw [Nat.pow_zero, Nat.mul_one], Below.refl _ w⟩
  generalize val xs = V at *
  generalize xs.length = m at *
  clear ha hx hf
  go_enter Tryz.func76, Tryz.ntmps76
  go_wp2
  go_loopw [0, 5] (fun l kk wr => DbRel w wr V n l kk) (fun _ kk _ => n - (intOf kk).toNat)
  case atStart => exact H0.out
  case round =>
    clear H0
    obtain ⟨k, A1, c1, r, hk, rfl, rfl, hr, hc, hv, hb⟩ := hrel
    have hlt : V * 2 ^ k < 4294967296 ^ 130 := Nat.lt_of_le_of_lt (Nat.mul_le_mul_left _ (Nat.pow_le_pow_right (by decide) hk)) HF.out
    have hl : r.length ≤ 130 := fitN_len hc (by rw [hv]; exact hlt)
    have HV := Lib.hid hv
    have HB := Lib.hid hb
    have HC := Lib.hid hc
    have HR := Lib.hid hr
    clear hlt hv hb hc hr
    by_cases hkn : k < n
    · have C1 := Lib.hid (P1.out A1 c1 r wr HR.out HC.out hl)
      go_wp2_with fail
      refine C1.out.mono ?_
      rintro e w1 ⟨⟨v, rfl, A2, c2, r2, rfl, -, h2, h3, h4⟩, hb1⟩
      have X2 := Lib.hid (show DbRel w w1 V n (.slice A2 r2.length c2) (.int .i64 ((k + 1 : Nat) : Int)) from ⟨k + 1, A2, c2, r2, hkn, rfl, rfl, h2, h3, by rw [h4, HV.out, Nat.pow_succ, ← Nat.mul_assoc, Nat.mul_two], bel_trans (B := w.heap.size) HB.out hb1⟩)
      clear h2 h3 h4 hb1
      go_wp2_with fail
      go_roundw
      case rel => exact X2.out
      case measure => simp [intOf]; omega
    · obtain rfl : k = n := by omega
      go_wp2
      go_ret
      exact ⟨A1, c1, r, rfl, HR.out, HC.out, HV.out, HB.out⟩

end LM
end Go.Proofs.YtpaefbojilnnnaaGreatDoor

namespace Go.Proofs.YtpaefbojilnnnaaGreatDoor
open Go Go.RowKit
namespace LM
set_option linter.unusedVariables false

theorem word_parts0 {s : Bool} {m : Nat} {e : Int} (h : CanF m e) (hn : m < 4503599627370496) :
    wordF s m e < 18446744073709551616 ∧ wordF s m e / 4503599627370496 % 2048 = 0 ∧ wordF s m e % 4503599627370496 = m ∧ wordF s m e / 9223372036854775808 = (if s then 1 else 0) ∧ e = -1074 := by
  obtain ⟨h1, h2, h3, h4⟩ := h
  obtain rfl : e = -1074 := h4.resolve_left (by omega)
  unfold wordF
  cases s <;> simp <;> omega
theorem fit_shift {m k : Nat} (hm : m < 9007199254740992) (hk : k ≤ 971) : m * 2 ^ k < 4294967296 ^ 130 := by
  have h1 : m * 2 ^ k < 2 ^ 53 * 2 ^ k := Nat.mul_lt_mul_of_pos_right (by omega) (Nat.two_pow_pos _)
  obtain ⟨b, hb⟩ : ∃ b, 32 * 130 = b := ⟨_, rfl⟩
  rw [show 4294967296 = 2 ^ 32 from by decide, ← Nat.pow_mul, hb]
  rw [← Nat.pow_add] at h1
  exact Nat.lt_of_lt_of_le h1 (Nat.pow_le_pow_right (by decide) (by omega))
theorem intR_mk {w : World} {s : Bool} {A : Option Addr} {c : Nat} {r : List Nat} {V : Nat} (hV : 0 < V) (h1 : Rd w A r) (h2 : Can r) (h3 : val r = V) : IntR w (.agg #[.bool s, .slice A r.length c]) (sg s V) := by
  refine ⟨A, c, r, ?_, h1, h2, by rw [sg_abs]; exact h3⟩
  have : decide (sg s V < 0) = s := by
    cases s
    · exact decide_eq_false (show ¬ (V : Int) < 0 from by omega)
    · exact decide_eq_true (show -(V : Int) < 0 from by omega)
  rw [this]

set_option maxRecDepth 100000 in
set_option maxHeartbeats 1000000 in
theorem rparts_up {s : Bool} {m : Nat} {e : Int} (h : CanF m e) (hn : 4503599627370496 ≤ m) (he : 0 < e) (w : World) :
    Calls Tryz.prog 79 #[.float .f64 (wordF s m e)] w fun r w' => ∃ s1 A n c, r = .returned (.tuple #[.agg #[.bool s1, .slice A n c], .int .i64 (((-e).toNat : Nat) : Int)]) ∧ IntR w' (.agg #[.bool s1, .slice A n c]) (sg s (m * 2 ^ e.toNat)) ∧ Below w.heap.size w w' := by
  obtain ⟨p1, p2, p3, p4⟩ := word_parts (s := s) h hn
  obtain ⟨ex, hex⟩ : ∃ ex, (e + 1075).toNat = ex := ⟨_, rfl⟩
  obtain ⟨fr, hfr⟩ : ∃ fr, m - 4503599627370496 = fr := ⟨_, rfl⟩
  rw [hex] at p2
  rw [hfr] at p3
  have he1 : (ex : Int) - 1075 = e := by have := h.2.1; omega
  have he2 : (ex : Int) + -1075 = e := by have := h.2.1; omega
  have he3 : decide (-1075 < e) = true := decide_eq_true (by have := h.2.1; omega)
  have hml := h.1
  have hm1 : (fr : Int) + 4503599627370496 = (m : Int) := by omega
  have he4 : decide (0 < e) = true := decide_eq_true he
  have hdn : (((-e).toNat : Nat) : Int) = 0 := by omega

  obtain ⟨h1, h2, h3, h4⟩ := h
  obtain ⟨b, hb⟩ : ∃ b, wordF s m e = b := ⟨_, rfl⟩
  rw [hb] at p1 p2 p3 p4 ⊢
  have RB := run_mbits b
  obtain ⟨bq, hbq⟩ : ∃ q, b / 4503599627370496 = q := ⟨_, rfl⟩
  have hbqi : (b : Int) / 4503599627370496 = (bq : Int) := by omega
  have b1 : bits .and .u64 (bq : Int) 2047 = (ex : Int) := by
    have h := u64_and_nat bq 2047 (by omega) (by decide)
    have h2 : bq &&& 2047 = ex := by rw [nat_mask11, ← hbq, p2]
    rw [h2] at h
    exact h
  have b2 : bits .and .u64 (b : Int) 4503599627370495 = (fr : Int) := by
    have h := u64_and_nat b 4503599627370495 p1 (by decide)
    have h2 : b &&& 4503599627370495 = fr := by
      rw [show b &&& 4503599627370495 = b % 2 ^ 52 from Nat.and_two_pow_sub_one_eq_mod b 52]
      exact p3
    rw [h2] at h
    exact h
  have hsg : ((b : Int) / 9223372036854775808 == 1) = s := by
    cases s
    · rw [beq_eq_false_iff_ne]; simp at p4; omega
    · rw [beq_iff_eq]; simp at p4; omega
  have X0 := Lib.hid (Bx.new w false none 0 0)
  have HB0 : Hid (Below w.heap.size w (w.alloc (.cells #[.bool false, .slice none 0 0] 38))) := Lib.hid ((Below.refl _ w).alloc (Nat.le_refl _) _)
  have O1 := Lib.hid fun W => rof_any m W (by omega)
  clear hb p2 p3 p4 hbq
  go_enter Tryz.func79, Tryz.ntmps79
  go_wp2_with (fail)
  refine (O1.out _).mono ?_
  rintro e1 w1 ⟨⟨v, rfl, A1, c1, r1, rfl, -, g1, g2, g3⟩, hb1⟩
  have X1 := Lib.hid (X0.out.below hb1)
  have HB1 := Lib.hid (bel_trans (B := w.heap.size) HB0.out hb1)
  have D1 := Lib.hid (rdoubled_any A1 c1 r1 e.toNat w1 g1 g2 (by omega) (by rw [g3]; exact fit_shift h1 (by omega)))
  clear g1 g2 hb1
  have hei : ((e.toNat : Nat) : Int) = e := by omega
  rw [hei, g3] at D1
  go_wp2_with (fail)
  refine D1.out.mono ?_
  rintro e2 w2 ⟨A2, c2, r2, rfl, k1, k2, k3, hb2⟩
  have X2 := Lib.hid (X1.out.below hb2)
  have HB2 := Lib.hid (bel_trans (B := w.heap.size) HB1.out hb2)
  have hpos : 0 < m * 2 ^ e.toNat := Nat.mul_pos (by omega) (Nat.two_pow_pos _)
  have hr2 : ((r2.length : Int) == 0) = false := by
    rw [beq_eq_false_iff_ne]
    have := (can_pos k2).2 (by omega)
    omega
  have V2 := Lib.hid (intR_mk (s := s) (c := c2) hpos k1 k2 k3)
  obtain ⟨x0, x1, x2, x3, xl⟩ := X2.out.facts
  obtain ⟨W, hW, ZX, hbW, -, hvW, -, -⟩ := stored_world X2.out HB2.out (Nat.le_refl _) s A2 r2.length c2
  obtain ⟨z0, z1, -, -, zl⟩ := ZX.facts
  have HBW := Lib.hid hbW
  have HVW := Lib.hid (hvW _ _ V2.out)
  clear ZX hbW hvW k1 k2 k3 hpos
  go_wp2_with (fail)
  first | rw [hW] | skip
  refine bodyPost_ret (v := .tuple #[.agg #[.bool s, .slice A2 r2.length c2], .int .i64 (((-e).toNat : Nat) : Int)]) (by simp [results, Tryz.results79, go_sem, z0, z1, hdn]) rfl ?_
  exact ⟨_, _, _, _, rfl, HVW.out, HBW.out⟩

set_option maxRecDepth 100000 in
set_option maxHeartbeats 1000000 in
theorem rparts_down {s : Bool} {m : Nat} {e : Int} (h : CanF m e) (hn : 4503599627370496 ≤ m) (he : e ≤ 0) (w : World) :
    Calls Tryz.prog 79 #[.float .f64 (wordF s m e)] w fun r w' => ∃ s1 A n c, r = .returned (.tuple #[.agg #[.bool s1, .slice A n c], .int .i64 (((-e).toNat : Nat) : Int)]) ∧ IntR w' (.agg #[.bool s1, .slice A n c]) (sg s (m * 2 ^ e.toNat)) ∧ Below w.heap.size w w' := by
  obtain ⟨p1, p2, p3, p4⟩ := word_parts (s := s) h hn
  obtain ⟨ex, hex⟩ : ∃ ex, (e + 1075).toNat = ex := ⟨_, rfl⟩
  obtain ⟨fr, hfr⟩ : ∃ fr, m - 4503599627370496 = fr := ⟨_, rfl⟩
  rw [hex] at p2
  rw [hfr] at p3
  have he1 : (ex : Int) - 1075 = e := by have := h.2.1; omega
  have he2 : (ex : Int) + -1075 = e := by have := h.2.1; omega
  have he3 : decide (-1075 < e) = true := decide_eq_true (by have := h.2.1; omega)
  have hml := h.1
  have hm1 : (fr : Int) + 4503599627370496 = (m : Int) := by omega
  have he4 : decide (0 < e) = false := decide_eq_false (by omega)
  have hdn : (((-e).toNat : Nat) : Int) = -e := by omega

  obtain ⟨h1, h2, h3, h4⟩ := h
  obtain ⟨b, hb⟩ : ∃ b, wordF s m e = b := ⟨_, rfl⟩
  rw [hb] at p1 p2 p3 p4 ⊢
  have RB := run_mbits b
  obtain ⟨bq, hbq⟩ : ∃ q, b / 4503599627370496 = q := ⟨_, rfl⟩
  have hbqi : (b : Int) / 4503599627370496 = (bq : Int) := by omega
  have b1 : bits .and .u64 (bq : Int) 2047 = (ex : Int) := by
    have h := u64_and_nat bq 2047 (by omega) (by decide)
    have h2 : bq &&& 2047 = ex := by rw [nat_mask11, ← hbq, p2]
    rw [h2] at h
    exact h
  have b2 : bits .and .u64 (b : Int) 4503599627370495 = (fr : Int) := by
    have h := u64_and_nat b 4503599627370495 p1 (by decide)
    have h2 : b &&& 4503599627370495 = fr := by
      rw [show b &&& 4503599627370495 = b % 2 ^ 52 from Nat.and_two_pow_sub_one_eq_mod b 52]
      exact p3
    rw [h2] at h
    exact h
  have hsg : ((b : Int) / 9223372036854775808 == 1) = s := by
    cases s
    · rw [beq_eq_false_iff_ne]; simp at p4; omega
    · rw [beq_iff_eq]; simp at p4; omega
  have X0 := Lib.hid (Bx.new w false none 0 0)
  have HB0 : Hid (Below w.heap.size w (w.alloc (.cells #[.bool false, .slice none 0 0] 38))) := Lib.hid ((Below.refl _ w).alloc (Nat.le_refl _) _)
  have O1 := Lib.hid fun W => rof_any m W (by omega)
  clear hb p2 p3 p4 hbq
  go_enter Tryz.func79, Tryz.ntmps79
  go_wp2_with (fail)
  refine (O1.out _).mono ?_
  rintro e1 w1 ⟨⟨v, rfl, A1, c1, r1, rfl, -, g1, g2, g3⟩, hb1⟩
  have X1 := Lib.hid (X0.out.below hb1)
  have HB1 := Lib.hid (bel_trans (B := w.heap.size) HB0.out hb1)
  have A2 := A1
  have hpos : 0 < m * 2 ^ e.toNat := Nat.mul_pos (by omega) (Nat.two_pow_pos _)
  have k3 : val r1 = m * 2 ^ e.toNat := by rw [g3, show e.toNat = 0 from by omega, Nat.pow_zero, Nat.mul_one]
  have X2 := X1
  have HB2 := HB1
  have hr2 : ((r1.length : Int) == 0) = false := by
    rw [beq_eq_false_iff_ne]
    have := (can_pos g2).2 (by omega)
    omega
  have V2 := Lib.hid (intR_mk (s := s) (c := c1) hpos g1 g2 k3)
  obtain ⟨x0, x1, x2, x3, xl⟩ := X2.out.facts
  obtain ⟨W, hW, ZX, hbW, -, hvW, -, -⟩ := stored_world X2.out HB2.out (Nat.le_refl _) s A1 r1.length c1
  obtain ⟨z0, z1, -, -, zl⟩ := ZX.facts
  have HBW := Lib.hid hbW
  have HVW := Lib.hid (hvW _ _ V2.out)
  clear ZX hbW hvW g1 g2 k3 hpos
  go_wp2_with (fail)
  first | rw [hW] | skip
  refine bodyPost_ret (v := .tuple #[.agg #[.bool s, .slice A1 r1.length c1], .int .i64 (((-e).toNat : Nat) : Int)]) (by simp [results, Tryz.results79, go_sem, z0, z1, hdn]) rfl ?_
  exact ⟨_, _, _, _, rfl, HVW.out, HBW.out⟩

set_option maxRecDepth 100000 in
set_option maxHeartbeats 1000000 in
theorem rparts_sub {s : Bool} {m : Nat} {e : Int} (h : CanF m e) (hn : m < 4503599627370496) (hm0 : 0 < m) (w : World) :
    Calls Tryz.prog 79 #[.float .f64 (wordF s m e)] w fun r w' => ∃ s1 A n c, r = .returned (.tuple #[.agg #[.bool s1, .slice A n c], .int .i64 (((-e).toNat : Nat) : Int)]) ∧ IntR w' (.agg #[.bool s1, .slice A n c]) (sg s (m * 2 ^ e.toNat)) ∧ Below w.heap.size w w' := by
  obtain ⟨p1, p2, p3, p4, rfl⟩ := word_parts0 (s := s) h hn
  have hdn : (((-(-1074 : Int)).toNat : Nat) : Int) = 1074 := by decide

  obtain ⟨h1, h2, h3, h4⟩ := h
  obtain ⟨b, hb⟩ : ∃ b, wordF s m (-1074) = b := ⟨_, rfl⟩
  rw [hb] at p1 p2 p3 p4 ⊢
  have RB := run_mbits b
  obtain ⟨bq, hbq⟩ : ∃ q, b / 4503599627370496 = q := ⟨_, rfl⟩
  have hbqi : (b : Int) / 4503599627370496 = (bq : Int) := by omega
  have b1 : bits .and .u64 (bq : Int) 2047 = (0 : Int) := by
    have h := u64_and_nat bq 2047 (by omega) (by decide)
    have h2 : bq &&& 2047 = 0 := by rw [nat_mask11, ← hbq, p2]
    rw [h2] at h
    exact h
  have b2 : bits .and .u64 (b : Int) 4503599627370495 = (m : Int) := by
    have h := u64_and_nat b 4503599627370495 p1 (by decide)
    have h2 : b &&& 4503599627370495 = m := by
      rw [show b &&& 4503599627370495 = b % 2 ^ 52 from Nat.and_two_pow_sub_one_eq_mod b 52]
      exact p3
    rw [h2] at h
    exact h
  have hsg : ((b : Int) / 9223372036854775808 == 1) = s := by
    cases s
    · rw [beq_eq_false_iff_ne]; simp at p4; omega
    · rw [beq_iff_eq]; simp at p4; omega
  have X0 := Lib.hid (Bx.new w false none 0 0)
  have HB0 : Hid (Below w.heap.size w (w.alloc (.cells #[.bool false, .slice none 0 0] 38))) := Lib.hid ((Below.refl _ w).alloc (Nat.le_refl _) _)
  have O1 := Lib.hid fun W => rof_any m W (by omega)
  clear hb p2 p3 p4 hbq
  go_enter Tryz.func79, Tryz.ntmps79
  go_wp2_with (fail)
  refine (O1.out _).mono ?_
  rintro e1 w1 ⟨⟨v, rfl, A1, c1, r1, rfl, -, g1, g2, g3⟩, hb1⟩
  have X1 := Lib.hid (X0.out.below hb1)
  have HB1 := Lib.hid (bel_trans (B := w.heap.size) HB0.out hb1)
  have A2 := A1
  have hpos : 0 < m * 2 ^ (-1074 : Int).toNat := Nat.mul_pos (by omega) (Nat.two_pow_pos _)
  have k3 : val r1 = m * 2 ^ (-1074 : Int).toNat := by rw [g3, show (-1074 : Int).toNat = 0 from by omega, Nat.pow_zero, Nat.mul_one]
  have X2 := X1
  have HB2 := HB1
  have hr2 : ((r1.length : Int) == 0) = false := by
    rw [beq_eq_false_iff_ne]
    have := (can_pos g2).2 (by omega)
    omega
  have V2 := Lib.hid (intR_mk (s := s) (c := c1) hpos g1 g2 k3)
  obtain ⟨x0, x1, x2, x3, xl⟩ := X2.out.facts
  obtain ⟨W, hW, ZX, hbW, -, hvW, -, -⟩ := stored_world X2.out HB2.out (Nat.le_refl _) s A1 r1.length c1
  obtain ⟨z0, z1, -, -, zl⟩ := ZX.facts
  have HBW := Lib.hid hbW
  have HVW := Lib.hid (hvW _ _ V2.out)
  clear ZX hbW hvW g1 g2 k3 hpos
  go_wp2_with (fail)
  first | rw [hW] | skip
  refine bodyPost_ret (v := .tuple #[.agg #[.bool s, .slice A1 r1.length c1], .int .i64 1074]) (by simp [results, Tryz.results79, go_sem, z0, z1]) rfl ?_
  exact ⟨_, _, _, _, rfl, HVW.out, HBW.out⟩

set_option maxRecDepth 100000 in
set_option maxHeartbeats 1000000 in
theorem rparts_lit (b bq : Nat) (w : World) (p1 : b < 18446744073709551616) (hbqi : (b : Int) / 4503599627370496 = (bq : Int)) (b1 : bits .and .u64 (bq : Int) 2047 = 0) (b2 : bits .and .u64 (b : Int) 4503599627370495 = 0) :
    Calls Tryz.prog 79 #[.float .f64 b] w fun r w' => r = .returned (.tuple #[.agg #[.bool false, .slice none 0 0], .int .i64 1074]) ∧ Below w.heap.size w w' := by
  have RB := run_mbits b
  have X0 := Lib.hid (Bx.new w false none 0 0)
  have HB0 : Hid (Below w.heap.size w (w.alloc (.cells #[.bool false, .slice none 0 0] 38))) := Lib.hid ((Below.refl _ w).alloc (Nat.le_refl _) _)
  have O1 : Hid (∀ W, Calls Tryz.prog 77 #[.int .u64 0] W fun e w' => (∃ v, e = .returned v ∧ NumR w' v 0) ∧ Below W.heap.size W w') := Lib.hid fun W => rof_any 0 W (by decide)
  go_enter Tryz.func79, Tryz.ntmps79
  go_wp2_with (fail)
  refine (O1.out _).mono ?_
  rintro e1 w1 ⟨⟨v, rfl, A1, c1, r1, rfl, -, g1, g2, g3⟩, hb1⟩
  have X1 := Lib.hid (X0.out.below hb1)
  have HB1 := Lib.hid (bel_trans (B := w.heap.size) HB0.out hb1)
  have hr1 : r1.length = 0 := (can_zero g2).2 g3
  clear g1 g2 g3 hb1
  generalize r1.length = n at hr1 ⊢
  subst hr1
  obtain ⟨x0, x1, x2, x3, xl⟩ := X1.out.facts
  obtain ⟨W, hW, ZX, hbW, -, -, -, -⟩ := stored_world X1.out HB1.out (Nat.le_refl _) false none 0 0
  obtain ⟨z0, z1, -, -, zl⟩ := ZX.facts
  have HBW := Lib.hid hbW
  clear ZX hbW
  go_wp2_with (fail)
  first | rw [hW] | skip
  refine bodyPost_ret (v := .tuple #[.agg #[.bool false, .slice none 0 0], .int .i64 1074]) (by simp [results, Tryz.results79, go_sem, z0, z1]) rfl ?_
  exact ⟨rfl, HBW.out⟩
theorem rparts_zero {s : Bool} {m : Nat} {e : Int} (h : CanF m e) (hm0 : m = 0) (w : World) :
    Calls Tryz.prog 79 #[.float .f64 (wordF s m e)] w fun r w' => ∃ s1 A n c, r = .returned (.tuple #[.agg #[.bool s1, .slice A n c], .int .i64 (((-e).toNat : Nat) : Int)]) ∧ IntR w' (.agg #[.bool s1, .slice A n c]) (sg s (m * 2 ^ e.toNat)) ∧ Below w.heap.size w w' := by
  subst hm0
  obtain rfl : e = -1074 := h.2.2.2.resolve_left (by omega)
  rw [Nat.zero_mul, sg_zero]
  cases s
  · exact (rparts_lit 0 0 w (by decide) (by decide) (by decide) (by decide)).mono fun r w' ⟨h1, h2⟩ => ⟨false, none, 0, 0, h1, intR_nil w', h2⟩
  · exact (rparts_lit 9223372036854775808 2048 w (by decide) (by decide) (by decide) (by decide)).mono fun r w' ⟨h1, h2⟩ => ⟨false, none, 0, 0, h1, intR_nil w', h2⟩
theorem rparts_can {s : Bool} {m : Nat} {e : Int} (h : CanF m e) (w : World) :
    Calls Tryz.prog 79 #[.float .f64 (wordF s m e)] w fun r w' => ∃ s1 A n c, r = .returned (.tuple #[.agg #[.bool s1, .slice A n c], .int .i64 (((-e).toNat : Nat) : Int)]) ∧ IntR w' (.agg #[.bool s1, .slice A n c]) (sg s (m * 2 ^ e.toNat)) ∧ Below w.heap.size w w' := by
  by_cases hn : 4503599627370496 ≤ m
  · by_cases he : 0 < e
    · exact rparts_up h hn he w
    · exact rparts_down h hn (by omega) w
  · by_cases hm : m = 0
    · exact rparts_zero h hm w
    · exact rparts_sub h (by omega) (by omega) w

end LM
end Go.Proofs.YtpaefbojilnnnaaGreatDoor

namespace Go.Proofs.YtpaefbojilnnnaaGreatDoor
open Go Go.RowKit
namespace LM
set_option linter.unusedVariables false

theorem cmpI_scale (a b V : Int) (hV : 0 < V) : cmpI (a * V) (b * V) = cmpI a b := by
  unfold cmpI
  have h1 : (a * V < b * V) ↔ a < b := Int.mul_lt_mul_right hV
  have h2 : (b * V < a * V) ↔ b < a := Int.mul_lt_mul_right hV
  simp only [h1, h2]
theorem cmp_parts (x : Int) (s : Bool) (m : Nat) (e : Int) (h0 : -1074 ≤ e) : cmpI (x * ((2 ^ (-e).toNat : Nat) : Int)) (sg s (m * 2 ^ e.toNat)) = cmpI (x * unit) (sv s m e) := by
  by_cases he : 0 ≤ e
  · rw [show (-e).toNat = 0 from by omega, Nat.pow_zero, show ((1 : Nat) : Int) = 1 from rfl, Int.mul_one, ← sv_up s m e he, ← sg_mul_nat, cmpI_scale _ _ _ unit_pos]
  · obtain ⟨d, hd⟩ : ∃ d, (-e).toNat = d := ⟨_, rfl⟩
    have hed : e = -(d : Int) := by omega
    have hV : 0 < 2 ^ (-(d : Int) + 1074).toNat := Nat.two_pow_pos _
    rw [hd, show e.toNat = 0 from by omega, Nat.pow_zero, Nat.mul_one, sv_sg, hed, sg_mul_nat, unit_split d (by omega), Int.natCast_mul, ← Int.mul_assoc, cmpI_scale _ _ _ (by omega)]

theorem fit_small {n k : Nat} (hn : n < 2 ^ k) (hk : k ≤ 4160) : n < 4294967296 ^ 130 := by
  obtain ⟨b, hb⟩ : ∃ b, 32 * 130 = b := ⟨_, rfl⟩
  rw [show 4294967296 = 2 ^ 32 from by decide, ← Nat.pow_mul, hb]
  exact Nat.lt_of_lt_of_le hn (Nat.pow_le_pow_right (by decide) (by omega))
theorem big_pow {x : Int} (nx : ¬ BigI x) : ∃ k, k = 2048 ∧ x.natAbs < 2 ^ k := by
  obtain ⟨b, hb⟩ : ∃ b, 32 * 64 = b := ⟨_, rfl⟩
  refine ⟨b, hb.symm, ?_⟩
  have h : x.natAbs < 4294967296 ^ 64 := Nat.lt_of_not_le nx
  rw [show 4294967296 = 2 ^ 32 from by decide, ← Nat.pow_mul, hb] at h
  exact h
theorem dbl_pow {x : Int} (nx : ¬ BigI x) {d : Nat} (hd : d ≤ 1074) : ∃ k, k ≤ 3122 ∧ x.natAbs * 2 ^ d < 2 ^ k := by
  obtain ⟨k, hk, hx⟩ := big_pow nx
  refine ⟨k + d, by omega, ?_⟩
  rw [Nat.pow_add]
  exact Nat.mul_lt_mul_of_pos_right hx (Nat.two_pow_pos _)
theorem num_pow {m k : Nat} (hm : m < 9007199254740992) (hk : k ≤ 971) : ∃ j, j ≤ 3122 ∧ m * 2 ^ k < 2 ^ j := by
  refine ⟨53 + k, by omega, ?_⟩
  rw [Nat.pow_add]
  exact Nat.mul_lt_mul_of_pos_right (by omega) (Nat.two_pow_pos _)

set_option maxRecDepth 1000000 in
set_option maxHeartbeats 4000000 in
theorem rflocmp_can {s : Bool} {m : Nat} {e : Int} (h : CanF m e) (x : Int) (v : Value) (w : World) (hv : IntR w v x) (nx : ¬ BigI x) :
    Calls Tryz.prog 26 #[v, .float .f64 (wordF s m e)] w fun r w' => r = .returned (.tuple #[.int .i64 (cmpI (x * unit) (sv s m e)), .bool true]) ∧ Below w.heap.size w w' := by
  have hE := cmp_parts x s m e h.2.1
  obtain ⟨res, hres⟩ : ∃ res, cmpI (x * unit) (sv s m e) = res := ⟨_, rfl⟩
  rw [hres] at hE ⊢
  obtain ⟨A, c, r, rfl, h1, h2, h3⟩ := hv
  have hd : (-e).toNat ≤ 1074 := by have := h.2.1; omega
  obtain ⟨k1, hk1, hx1⟩ := dbl_pow nx hd
  obtain ⟨k2, hk2, hm2⟩ := num_pow (m := m) (k := e.toNat) h.1 (by have := h.2.2.1; omega)
  have f1 : val r * 2 ^ (-e).toNat < 4294967296 ^ 130 := fit_small (by rw [h3]; exact hx1) (by omega)
  have fA : FitI (x * ((2 ^ (-e).toNat : Nat) : Int)) := by
    unfold FitI
    rw [Int.natAbs_mul, Int.natAbs_natCast]
    exact fit_small hx1 (by omega)
  have fB : FitI (sg s (m * 2 ^ e.toNat)) := by
    unfold FitI
    rw [sg_abs]
    exact fit_small hm2 (by omega)
  have fC : FitI (x * ((2 ^ (-e).toNat : Nat) : Int) + -sg s (m * 2 ^ e.toNat)) := by
    unfold FitI
    have g1 : (x * ((2 ^ (-e).toNat : Nat) : Int) + -sg s (m * 2 ^ e.toNat)).natAbs ≤ x.natAbs * 2 ^ (-e).toNat + m * 2 ^ e.toNat := by
      refine Nat.le_trans (Int.natAbs_add_le _ _) ?_
      rw [Int.natAbs_mul, Int.natAbs_natCast, Int.natAbs_neg, sg_abs]
      exact Nat.le_refl _
    obtain ⟨j, hj⟩ : ∃ j, 3122 = j := ⟨_, rfl⟩
    have g2 : 2 ^ k1 ≤ 2 ^ j := Nat.pow_le_pow_right (by decide) (by omega)
    have g3 : 2 ^ k2 ≤ 2 ^ j := Nat.pow_le_pow_right (by decide) (by omega)
    refine fit_small (k := j + 1) ?_ (by omega)
    rw [Nat.pow_succ]
    omega
  have hb := can_lt (s := s) h
  have hn := can_nan (s := s) h
  have hcw : canW (wordF s m e) = wordF s m e := by unfold canW; rw [if_neg hn]
  have B1h := fun W => rbits_any (wordF s m e) W hb
  rw [hcw] at B1h
  have P1 := Lib.hid (rparts_can (s := s) h)
  have habs := can_abs (s := s) h
  have hw := h.1
  have hlt0 : wordF false m e < 9218868437227405312 := by
    obtain ⟨c1, c2, c3, c4⟩ := h
    unfold wordF
    simp
    omega
  obtain ⟨b, hbe⟩ : ∃ b, wordF s m e = b := ⟨_, rfl⟩
  rw [hbe] at B1h P1 habs hb ⊢
  have B1 := Lib.hid B1h
  have e1 : ((b : Int) == 9221120237041090561) = false := by rw [beq_eq_false_iff_ne]; omega
  have e2 : ((b : Int) == 9218868437227405312) = false := by rw [beq_eq_false_iff_ne]; omega
  have e3 : ((b : Int) == 18442240474082181120) = false := by rw [beq_eq_false_iff_ne]; omega
  obtain ⟨d, hde⟩ : ∃ d, (-e).toNat = d := ⟨_, rfl⟩
  rw [hde] at hd f1 fA fC hE P1
  obtain ⟨M, hM⟩ : ∃ M, sg s (m * 2 ^ e.toNat) = M := ⟨_, rfl⟩
  rw [hM] at fB fC hE P1
  obtain ⟨t, ht⟩ : ∃ t, decide (x < 0) = t := ⟨_, rfl⟩
  have hsx : ∀ (A2 : Option Addr) (c2 : Nat) (r2 : List Nat) (W : World), Rd W A2 r2 → Can r2 → val r2 = val r * 2 ^ d → IntR W (.agg #[.bool t, .slice A2 r2.length c2]) (x * ((2 ^ d : Nat) : Int)) := fun A2 c2 r2 W g1 g2 g3 => by
    refine ⟨A2, c2, r2, ?_, g1, g2, by rw [g3, h3, Int.natAbs_mul, Int.natAbs_natCast]⟩
    have hp : 0 < 2 ^ d := Nat.two_pow_pos _
    have : decide (x * ((2 ^ d : Nat) : Int) < 0) = decide (x < 0) := by
      rw [decide_eq_decide]
      constructor
      · intro q
        rcases Int.lt_or_le x 0 with q2 | q2
        · exact q2
        · have := Int.mul_nonneg q2 (show (0 : Int) ≤ ((2 ^ d : Nat) : Int) by omega)
          omega
      · intro q
        exact Int.mul_neg_of_neg_of_pos q (by omega)
    rw [this, ht]
  rw [ht]
  obtain ⟨n, hnl⟩ : ∃ n, r.length = n := ⟨_, rfl⟩
  have hb0 : Below w.heap.size w (w.alloc (.cells #[.bool t, .slice A r.length c] 38)) := (Below.refl _ w).alloc (Nat.le_refl _) _
  have X0 := Lib.hid (Bx.new w t A r.length c)
  have HB0 := Lib.hid hb0
  have R0 := Lib.hid (h1.below hb0)
  have HC := Lib.hid h2
  have F1 := Lib.hid f1
  have HSX := Lib.hid hsx
  have FA := Lib.hid fA
  have FB := Lib.hid fB
  have FC := Lib.hid fC
  have HE := Lib.hid hE
  clear h h1 h2 h3 hres hx1 hm2 f1 fA fB fC B1h hcw hbe habs hlt0 hw hM ht hsx hb0 hE hn hnl hk1 hk2
  go_enter Tryz.func26, Tryz.ntmps26
  go_wp2_with (fail)
  refine (B1.out _).mono ?_
  rintro e' w' ⟨rfl, rfl⟩
  go_wp2_with (fail)
  refine (P1.out _).mono ?_
  rintro e' w1 ⟨s1, A1, n1, c1, rfl, hv1, hb1⟩
  have hbk := bel_trans (B := w.heap.size) HB0.out hb1
  have XS2 := Lib.hid ((Bxs.nil.cons (X0.out.below hb1)).new s1 A1 n1 c1).drew
  have V2 := Lib.hid ((hv1.alloc (.cells #[.bool s1, .slice A1 n1 c1] 38)).drew)
  have HB2 := Lib.hid ((hbk.alloc hbk.size (.cells #[.bool s1, .slice A1 n1 c1] 38)).drew)
  have R2 : Hid (Rd (w1.alloc (.cells #[.bool s1, .slice A1 n1 c1] 38)).drew A r) := Lib.hid ((R0.out.below hb1).below (((Below.refl _ w1).alloc (Nat.le_refl _) _).drew))
  have D1 := Lib.hid (rdoubled_any A c r d _ R2.out HC.out (by omega) F1.out)
  have KS : Hid (∀ W, Bxs W [(w1.heap.size, s1, A1, n1, c1), (w.heap.size, t, A, r.length, c)] → W.cell? ⟨w.heap.size, 0, none⟩ = some (.bool t) ∧ W.cell? ⟨w.heap.size, 1, none⟩ = some (.slice A r.length c) ∧ W.cell? ⟨w1.heap.size, 0, none⟩ = some (.bool s1) ∧ W.cell? ⟨w1.heap.size, 1, none⟩ = some (.slice A1 n1 c1)) :=
    Lib.hid fun W h => ⟨h.tl.hd.c0, h.tl.hd.c1, h.hd.c0, h.hd.c1⟩
  clear hv1 hb1 hbk
  go_wp2_with (fail)
  go_region_held3 (fun W => W.cell? ⟨w.heap.size, 0, none⟩ = some (.bool t) ∧ W.cell? ⟨w.heap.size, 1, none⟩ = some (.slice A r.length c) ∧ W.cell? ⟨w1.heap.size, 0, none⟩ = some (.bool s1) ∧ W.cell? ⟨w1.heap.size, 1, none⟩ = some (.slice A1 n1 c1))
    ((exact KS.out _ (Hid.out (by assumption))))
    (first
      | (go_at_call 76; (with_reducible refine D1.out.mono ?_); rintro e' w3 ⟨A3, c3, r3, rfl, g1, g2, g3, hbz⟩; have XS3 := Lib.hid (XS2.out.below hbz); have HB3 := Lib.hid (bel_trans (B := w.heap.size) HB2.out hbz); have D2 := Lib.hid (rcmpF_any t s1 A3 A1 r3.length c3 n1 c1 w3 _ _ (HSX.out A3 c3 r3 w3 g1 g2 g3) (V2.out.keep hbz) FA.out FB.out FC.out); clear g1 g2 g3 hbz)
      | (go_at_call 31; (with_reducible refine D2.out.mono ?_); rintro e' w4 ⟨rfl, hbz⟩; have XS4 := Lib.hid (XS3.out.below hbz); have HB4 := Lib.hid (bel_trans (B := w.heap.size) HB3.out hbz); clear hbz))
  all_goals
    have HEE := HE.out
    clear HE
    subst HEE
    go_wp2
    go_ret2
    exact ⟨rfl, HB4.out⟩

end LM
end Go.Proofs.YtpaefbojilnnnaaGreatDoor

namespace Go.Proofs.YtpaefbojilnnnaaGreatDoor
open Go Go.RowKit
namespace LM
set_option linter.unusedVariables false
attribute [local go_sem] run_store_flt

theorem cmpI_bd (x y : Int) : -1 ≤ cmpI x y ∧ cmpI x y ≤ 1 := by
  unfold cmpI
  split
  · omega
  · split <;> omega

set_option maxRecDepth 100000 in
set_option maxHeartbeats 1000000 in
theorem flocmp_nan (b : Nat) (hb : b < 18446744073709551616) (hn : nanW b) (s : Bool) (A : Option Addr) (n c : Nat) (w : World) :
    Calls Tryz.prog 25 #[.agg #[.bool s, .slice A n c], .float .f64 b] w fun e w' => e = .returned (.tuple #[.int .i64 0, .bool false]) ∧ Below w.heap.size w w' := by
  have N1 := Lib.hid fun W => isNaN_any b W hb
  rw [show decide (nanW b) = true from decide_eq_true hn] at N1
  have HB0 : Hid (Below w.heap.size w (w.alloc (.cells #[.bool s, .slice A n c] 38))) := Lib.hid ((Below.refl _ w).alloc (Nat.le_refl _) _)
  clear hn
  go_enter Tryz.func25, Tryz.ntmps25
  go_wp2_with (fail)
  refine (N1.out _).mono ?_
  rintro e w' ⟨rfl, rfl⟩
  go_wp2_with (fail)
  go_ret2
  exact ⟨rfl, HB0.out⟩
set_option maxRecDepth 100000 in
set_option maxHeartbeats 1000000 in
theorem rflocmp_nan (b : Nat) (hb : b < 18446744073709551616) (hn : nanW b) (s : Bool) (A : Option Addr) (n c : Nat) (w : World) :
    Calls Tryz.prog 26 #[.agg #[.bool s, .slice A n c], .float .f64 b] w fun e w' => e = .returned (.tuple #[.int .i64 0, .bool false]) ∧ Below w.heap.size w w' := by
  have h1 := fun W => rbits_any b W hb
  rw [show canW b = 9221120237041090561 from by unfold canW; rw [if_pos hn]] at h1
  have N1 := Lib.hid h1
  have HB0 : Hid (Below w.heap.size w (w.alloc (.cells #[.bool s, .slice A n c] 38))) := Lib.hid ((Below.refl _ w).alloc (Nat.le_refl _) _)
  clear hn h1
  go_enter Tryz.func26, Tryz.ntmps26
  go_wp2_with (fail)
  refine (N1.out _).mono ?_
  rintro e w' ⟨rfl, rfl⟩
  go_wp2_with (fail)
  go_ret2
  exact ⟨rfl, HB0.out⟩
set_option maxRecDepth 100000 in
set_option maxHeartbeats 1000000 in
theorem flocmp_pinf (s : Bool) (A : Option Addr) (n c : Nat) (w : World) :
    Calls Tryz.prog 25 #[.agg #[.bool s, .slice A n c], .float .f64 9218868437227405312] w fun e w' => e = .returned (.tuple #[.int .i64 (-1), .bool true]) ∧ Below w.heap.size w w' := by
  have h1 := fun W => isNaN_any 9218868437227405312 W (by decide)
  rw [show decide (nanW 9218868437227405312) = false from decide_eq_false (by unfold nanW; decide)] at h1
  have N1 := Lib.hid h1
  have P1 := Lib.hid fun W => isInf_pos 9218868437227405312 W true (by decide +kernel)
  have P2 := Lib.hid fun W => isInf_neg 9218868437227405312 W false (by decide +kernel)
  have HB0 : Hid (Below w.heap.size w (w.alloc (.cells #[.bool s, .slice A n c] 38))) := Lib.hid ((Below.refl _ w).alloc (Nat.le_refl _) _)
  clear h1
  go_enter Tryz.func25, Tryz.ntmps25
  go_wp2_with (fail)
  refine (N1.out _).mono ?_
  rintro e w' ⟨rfl, rfl⟩
  go_wp2_with (fail)
  refine (P1.out _).mono ?_
  rintro e w' ⟨rfl, rfl⟩
  go_wp2_with (fail)
  go_ret2
  exact ⟨rfl, HB0.out⟩
set_option maxRecDepth 100000 in
set_option maxHeartbeats 1000000 in
theorem rflocmp_pinf (s : Bool) (A : Option Addr) (n c : Nat) (w : World) :
    Calls Tryz.prog 26 #[.agg #[.bool s, .slice A n c], .float .f64 9218868437227405312] w fun e w' => e = .returned (.tuple #[.int .i64 (-1), .bool true]) ∧ Below w.heap.size w w' := by
  have h1 := fun W => rbits_any 9218868437227405312 W (by decide)
  rw [show canW 9218868437227405312 = 9218868437227405312 from by unfold canW; rw [if_neg (by unfold nanW; decide)]] at h1
  have N1 := Lib.hid h1
  have HB0 : Hid (Below w.heap.size w (w.alloc (.cells #[.bool s, .slice A n c] 38))) := Lib.hid ((Below.refl _ w).alloc (Nat.le_refl _) _)
  clear h1
  go_enter Tryz.func26, Tryz.ntmps26
  go_wp2_with (fail)
  refine (N1.out _).mono ?_
  rintro e w' ⟨rfl, rfl⟩
  go_wp2_with (fail)
  go_ret2
  exact ⟨rfl, HB0.out⟩
set_option maxRecDepth 100000 in
set_option maxHeartbeats 1000000 in
theorem flocmp_minf (s : Bool) (A : Option Addr) (n c : Nat) (w : World) :
    Calls Tryz.prog 25 #[.agg #[.bool s, .slice A n c], .float .f64 18442240474082181120] w fun e w' => e = .returned (.tuple #[.int .i64 1, .bool true]) ∧ Below w.heap.size w w' := by
  have h1 := fun W => isNaN_any 18442240474082181120 W (by decide)
  rw [show decide (nanW 18442240474082181120) = false from decide_eq_false (by unfold nanW; decide)] at h1
  have N1 := Lib.hid h1
  have P1 := Lib.hid fun W => isInf_pos 18442240474082181120 W false (by decide +kernel)
  have P2 := Lib.hid fun W => isInf_neg 18442240474082181120 W true (by decide +kernel)
  have HB0 : Hid (Below w.heap.size w (w.alloc (.cells #[.bool s, .slice A n c] 38))) := Lib.hid ((Below.refl _ w).alloc (Nat.le_refl _) _)
  clear h1
  go_enter Tryz.func25, Tryz.ntmps25
  go_wp2_with (fail)
  refine (N1.out _).mono ?_
  rintro e w' ⟨rfl, rfl⟩
  go_wp2_with (fail)
  refine (P1.out _).mono ?_
  rintro e w' ⟨rfl, rfl⟩
  go_wp2_with (fail)
  refine (P2.out _).mono ?_
  rintro e w' ⟨rfl, rfl⟩
  go_wp2_with (fail)
  go_ret2
  exact ⟨rfl, HB0.out⟩
set_option maxRecDepth 100000 in
set_option maxHeartbeats 1000000 in
theorem rflocmp_minf (s : Bool) (A : Option Addr) (n c : Nat) (w : World) :
    Calls Tryz.prog 26 #[.agg #[.bool s, .slice A n c], .float .f64 18442240474082181120] w fun e w' => e = .returned (.tuple #[.int .i64 1, .bool true]) ∧ Below w.heap.size w w' := by
  have h1 := fun W => rbits_any 18442240474082181120 W (by decide)
  rw [show canW 18442240474082181120 = 18442240474082181120 from by unfold canW; rw [if_neg (by unfold nanW; decide)]] at h1
  have N1 := Lib.hid h1
  have HB0 : Hid (Below w.heap.size w (w.alloc (.cells #[.bool s, .slice A n c] 38))) := Lib.hid ((Below.refl _ w).alloc (Nat.le_refl _) _)
  clear h1
  go_enter Tryz.func26, Tryz.ntmps26
  go_wp2_with (fail)
  refine (N1.out _).mono ?_
  rintro e w' ⟨rfl, rfl⟩
  go_wp2_with (fail)
  go_ret2
  exact ⟨rfl, HB0.out⟩
/-- the program and the document answer the same -/
theorem cmp_both (x : Int) (b : Nat) (hb : b < 18446744073709551616) (nx : ¬ BigI x) : ∃ k ok, (-1 ≤ k ∧ k ≤ 1) ∧
    (∀ v W, IntV W v x → Calls Tryz.prog 25 #[v, .float .f64 b] W fun e w' => e = .returned (.tuple #[.int .i64 k, .bool ok]) ∧ Below W.heap.size W w') ∧
    (∀ v W, IntR W v x → Calls Tryz.prog 26 #[v, .float .f64 b] W fun e w' => e = .returned (.tuple #[.int .i64 k, .bool ok]) ∧ Below W.heap.size W w') := by
  by_cases hn : nanW b
  · refine ⟨0, false, by decide, fun v W h => ?_, fun v W h => ?_⟩
    · obtain ⟨A, n, c, rfl⟩ := h.bx
      exact flocmp_nan b hb hn _ A n c W
    · obtain ⟨A, n, c, rfl⟩ := h.bx
      exact rflocmp_nan b hb hn _ A n c W
  · by_cases hi : b % 9223372036854775808 < 9218868437227405312
    · obtain ⟨s, m, e, hc, rfl⟩ := word_of b hb hi
      exact ⟨_, true, cmpI_bd _ _, fun v W h => flocmp_can hc x v W h nx, fun v W h => rflocmp_can hc x v W h nx⟩
    · unfold nanW at hn
      have h2 : b = 9218868437227405312 ∨ b = 18442240474082181120 := by omega
      rcases h2 with rfl | rfl
      · refine ⟨-1, true, by decide, fun v W h => ?_, fun v W h => ?_⟩
        · obtain ⟨A, n, c, rfl⟩ := h.bx
          exact flocmp_pinf _ A n c W
        · obtain ⟨A, n, c, rfl⟩ := h.bx
          exact rflocmp_pinf _ A n c W
      · refine ⟨1, true, by decide, fun v W h => ?_, fun v W h => ?_⟩
        · obtain ⟨A, n, c, rfl⟩ := h.bx
          exact flocmp_minf _ A n c W
        · obtain ⟨A, n, c, rfl⟩ := h.bx
          exact rflocmp_minf _ A n c W

set_option maxRecDepth 100000 in
set_option maxHeartbeats 1000000 in
theorem tcmp_ii (f fb : Nat) (k : Int) (hk : -1 ≤ k ∧ k ≤ 1) (s : Bool) (A : Option Addr) (n c : Nat) (s' : Bool) (A' : Option Addr) (n' c' : Nat) (w : World)
    (hC : ∀ W, Below w.heap.size w W → Calls Tryz.prog 78 #[.agg #[.bool s, .slice A n c], .agg #[.bool s', .slice A' n' c']] W fun e w' => e = .returned (.int .i64 k) ∧ Below W.heap.size W w') :
    Calls Tryz.prog 42 #[numA false f s A n c, numA false fb s' A' n' c'] w fun e w' => e = .returned (.tuple #[.int .i64 k, .bool true]) ∧ Below w.heap.size w w' := by
  obtain ⟨W0, hW0, hb0, hO⟩ := two_num w false f s A n c false fb s' A' n' c'
  have HB0 := Lib.hid hb0
  have HW0 := Lib.hid hW0
  have O0 := Lib.hid hO
  have C1 := Lib.hid (hC W0 hb0)
  clear hb0 hO hC hW0
  go_enter Tryz.func42, Tryz.ntmps42
  go_wp2_with (fail)
  rw [HW0.out]
  refine C1.out.mono ?_
  rintro e w1 ⟨rfl, hb1⟩
  go_wp2_with (fail)
  go_ret2
  exact ⟨rfl, bel_trans (B := w.heap.size) HB0.out hb1⟩
set_option maxRecDepth 100000 in
set_option maxHeartbeats 1000000 in
theorem tcmp_fi (f fb : Nat) (k : Int) (ok : Bool) (hk : -1 ≤ k ∧ k ≤ 1) (s : Bool) (A : Option Addr) (n c : Nat) (s' : Bool) (A' : Option Addr) (n' c' : Nat) (w : World)
    (hC : ∀ W, Below w.heap.size w W → Calls Tryz.prog 25 #[.agg #[.bool s', .slice A' n' c'], .float .f64 f] W fun e w' => e = .returned (.tuple #[.int .i64 k, .bool ok]) ∧ Below W.heap.size W w') :
    Calls Tryz.prog 42 #[numA true f s A n c, numA false fb s' A' n' c'] w fun e w' => e = .returned (.tuple #[.int .i64 (-k), .bool ok]) ∧ Below w.heap.size w w' := by
  obtain ⟨W0, hW0, hb0, hO⟩ := two_num w true f s A n c false fb s' A' n' c'
  have HB0 := Lib.hid hb0
  have HW0 := Lib.hid hW0
  have O0 := Lib.hid hO
  have C1 := Lib.hid (hC W0 hb0)
  clear hb0 hO hC hW0
  go_enter Tryz.func42, Tryz.ntmps42
  go_wp2_with (fail)
  rw [HW0.out]
  refine C1.out.mono ?_
  rintro e w1 ⟨rfl, hb1⟩
  go_wp2_with (fail)
  go_ret2
  exact ⟨rfl, bel_trans (B := w.heap.size) HB0.out hb1⟩
set_option maxRecDepth 100000 in
set_option maxHeartbeats 1000000 in
theorem rtcmp_ii (f fb : Nat) (k : Int) (hk : -1 ≤ k ∧ k ≤ 1) (s : Bool) (A : Option Addr) (n c : Nat) (s' : Bool) (A' : Option Addr) (n' c' : Nat) (w : World)
    (hC : ∀ W, Below w.heap.size w W → Calls Tryz.prog 31 #[.agg #[.bool s, .slice A n c], .agg #[.bool s', .slice A' n' c']] W fun e w' => e = .returned (.int .i64 k) ∧ Below W.heap.size W w') :
    Calls Tryz.prog 43 #[numA false f s A n c, numA false fb s' A' n' c'] w fun e w' => e = .returned (.tuple #[.int .i64 k, .bool true]) ∧ Below w.heap.size w w' := by
  obtain ⟨W0, hW0, hb0, hO⟩ := two_num w false f s A n c false fb s' A' n' c'
  have HB0 := Lib.hid hb0
  have HW0 := Lib.hid hW0
  have O0 := Lib.hid hO
  have C1 := Lib.hid (hC W0 hb0)
  clear hb0 hO hC hW0
  go_enter Tryz.func43, Tryz.ntmps43
  go_wp2_with (fail)
  rw [HW0.out]
  refine C1.out.mono ?_
  rintro e w1 ⟨rfl, hb1⟩
  go_wp2_with (fail)
  go_ret2
  exact ⟨rfl, bel_trans (B := w.heap.size) HB0.out hb1⟩
set_option maxRecDepth 100000 in
set_option maxHeartbeats 1000000 in
theorem rtcmp_if (f fb : Nat) (k : Int) (ok : Bool) (hk : -1 ≤ k ∧ k ≤ 1) (s : Bool) (A : Option Addr) (n c : Nat) (s' : Bool) (A' : Option Addr) (n' c' : Nat) (w : World)
    (hC : ∀ W, Below w.heap.size w W → Calls Tryz.prog 26 #[.agg #[.bool s, .slice A n c], .float .f64 fb] W fun e w' => e = .returned (.tuple #[.int .i64 k, .bool ok]) ∧ Below W.heap.size W w') :
    Calls Tryz.prog 43 #[numA false f s A n c, numA true fb s' A' n' c'] w fun e w' => e = .returned (.tuple #[.int .i64 k, .bool ok]) ∧ Below w.heap.size w w' := by
  obtain ⟨W0, hW0, hb0, hO⟩ := two_num w false f s A n c true fb s' A' n' c'
  have HB0 := Lib.hid hb0
  have HW0 := Lib.hid hW0
  have O0 := Lib.hid hO
  have C1 := Lib.hid (hC W0 hb0)
  clear hb0 hO hC hW0
  go_enter Tryz.func43, Tryz.ntmps43
  go_wp2_with (fail)
  rw [HW0.out]
  refine C1.out.mono ?_
  rintro e w1 ⟨rfl, hb1⟩
  go_wp2_with (fail)
  go_ret2
  exact ⟨rfl, bel_trans (B := w.heap.size) HB0.out hb1⟩
set_option maxRecDepth 100000 in
set_option maxHeartbeats 1000000 in
theorem rtcmp_fi (f fb : Nat) (k : Int) (ok : Bool) (hk : -1 ≤ k ∧ k ≤ 1) (s : Bool) (A : Option Addr) (n c : Nat) (s' : Bool) (A' : Option Addr) (n' c' : Nat) (w : World)
    (hC : ∀ W, Below w.heap.size w W → Calls Tryz.prog 26 #[.agg #[.bool s', .slice A' n' c'], .float .f64 f] W fun e w' => e = .returned (.tuple #[.int .i64 k, .bool ok]) ∧ Below W.heap.size W w') :
    Calls Tryz.prog 43 #[numA true f s A n c, numA false fb s' A' n' c'] w fun e w' => e = .returned (.tuple #[.int .i64 (-k), .bool ok]) ∧ Below w.heap.size w w' := by
  obtain ⟨W0, hW0, hb0, hO⟩ := two_num w true f s A n c false fb s' A' n' c'
  have HB0 := Lib.hid hb0
  have HW0 := Lib.hid hW0
  have O0 := Lib.hid hO
  have C1 := Lib.hid (hC W0 hb0)
  clear hb0 hO hC hW0
  go_enter Tryz.func43, Tryz.ntmps43
  go_wp2_with (fail)
  rw [HW0.out]
  refine C1.out.mono ?_
  rintro e w1 ⟨rfl, hb1⟩
  go_wp2_with (fail)
  go_ret2
  exact ⟨rfl, bel_trans (B := w.heap.size) HB0.out hb1⟩
end LM
end Go.Proofs.YtpaefbojilnnnaaGreatDoor

namespace Go.Proofs.YtpaefbojilnnnaaGreatDoor
open Go Go.RowKit
namespace LM
set_option linter.unusedVariables false
attribute [local go_sem] run_store_flt

theorem read_some (a : Nat) (ha : a < 18446744073709551616) (hn : ¬ nanW a) : (∃ s m e, Ieee.double.read a = .number s m e) ∨ (∃ s, Ieee.double.read a = .infinity s) := by
  by_cases h : a % 9223372036854775808 < 9218868437227405312
  · obtain ⟨s, m, e, hc, rfl⟩ := word_of a ha h
    exact .inl ⟨s, m, e, read_word hc⟩
  · unfold nanW at hn
    exact .inr ⟨_, read_inf a (by omega)⟩
theorem order_none (a b : Nat) (h : nanW a ∨ nanW b) : FloatKind.f64.format.order a b = none := by
  show Ieee.double.order a b = none
  unfold Ieee.Format.order
  rcases h with h | h
  · rw [read_nan a h]; rfl
  · rw [read_nan b h]
    cases Ieee.double.read a <;> rfl
theorem order_some (a b : Nat) (ha : a < 18446744073709551616) (hb : b < 18446744073709551616) (na : ¬ nanW a) (nb : ¬ nanW b) : ∃ o, FloatKind.f64.format.order a b = some o := by
  show ∃ o, Ieee.double.order a b = some o
  unfold Ieee.Format.order
  rcases read_some a ha na with ⟨s, m, e, h⟩ | ⟨s, h⟩ <;> rcases read_some b hb nb with ⟨t, n, j, k⟩ | ⟨t, k⟩ <;> rw [h, k] <;> exact ⟨_, rfl⟩

set_option maxHeartbeats 1000000 in
theorem cisnan_any (b : Nat) (w : World) (hb : b < 18446744073709551616) (hn : ¬ nanW b) :
    Calls Tryz.prog 161 #[.float .f64 b] w fun e w' => e = .returned (.bool false) ∧ w = w' := by
  have h1 : (FloatKind.f64.format.order b b != some .eq) = false := by
    have h := order_self b hb
    rw [if_neg hn] at h
    show (Ieee.double.order b b != some .eq) = false
    rw [h]; rfl
  clear hn
  go_enter Tryz.func161, Tryz.ntmps161
  go_wp2
  go_ret
  exact ⟨rfl, rfl⟩
set_option maxHeartbeats 1000000 in
theorem ccmp_lt (a b : Nat) (w : World) (ha : a < 18446744073709551616) (hb : b < 18446744073709551616) (na : ¬ nanW a) (nb : ¬ nanW b) (ho : FloatKind.f64.format.order a b = some .lt) :
    Calls Tryz.prog 106 #[.float .f64 a, .float .f64 b] w fun e w' => e = .returned (.int .i64 (-1)) ∧ w = w' := by
  have N1 := Lib.hid fun W => cisnan_any a W ha na
  have N2 := Lib.hid fun W => cisnan_any b W hb nb
  have l1 : (FloatKind.f64.format.order a b == some .lt) = true := by rw [ho]; rfl
  have l2 : (FloatKind.f64.format.order a b == some .gt) = false := by rw [ho]; rfl
  clear na nb ho
  go_enter Tryz.func106, Tryz.ntmps106
  go_wp2_with (fail)
  refine (N1.out _).mono ?_
  rintro e w' ⟨rfl, rfl⟩
  go_wp2_with (fail)
  refine (N2.out _).mono ?_
  rintro e w' ⟨rfl, rfl⟩
  go_wp2_with (fail)
  go_ret
  exact ⟨rfl, rfl⟩
set_option maxHeartbeats 1000000 in
theorem ccmp_gt (a b : Nat) (w : World) (ha : a < 18446744073709551616) (hb : b < 18446744073709551616) (na : ¬ nanW a) (nb : ¬ nanW b) (ho : FloatKind.f64.format.order a b = some .gt) :
    Calls Tryz.prog 106 #[.float .f64 a, .float .f64 b] w fun e w' => e = .returned (.int .i64 1) ∧ w = w' := by
  have N1 := Lib.hid fun W => cisnan_any a W ha na
  have N2 := Lib.hid fun W => cisnan_any b W hb nb
  have l1 : (FloatKind.f64.format.order a b == some .lt) = false := by rw [ho]; rfl
  have l2 : (FloatKind.f64.format.order a b == some .gt) = true := by rw [ho]; rfl
  clear na nb ho
  go_enter Tryz.func106, Tryz.ntmps106
  go_wp2_with (fail)
  refine (N1.out _).mono ?_
  rintro e w' ⟨rfl, rfl⟩
  go_wp2_with (fail)
  refine (N2.out _).mono ?_
  rintro e w' ⟨rfl, rfl⟩
  go_wp2_with (fail)
  go_ret
  exact ⟨rfl, rfl⟩
set_option maxHeartbeats 1000000 in
theorem ccmp_eq (a b : Nat) (w : World) (ha : a < 18446744073709551616) (hb : b < 18446744073709551616) (na : ¬ nanW a) (nb : ¬ nanW b) (ho : FloatKind.f64.format.order a b = some .eq) :
    Calls Tryz.prog 106 #[.float .f64 a, .float .f64 b] w fun e w' => e = .returned (.int .i64 0) ∧ w = w' := by
  have N1 := Lib.hid fun W => cisnan_any a W ha na
  have N2 := Lib.hid fun W => cisnan_any b W hb nb
  have l1 : (FloatKind.f64.format.order a b == some .lt) = false := by rw [ho]; rfl
  have l2 : (FloatKind.f64.format.order a b == some .gt) = false := by rw [ho]; rfl
  clear na nb ho
  go_enter Tryz.func106, Tryz.ntmps106
  go_wp2_with (fail)
  refine (N1.out _).mono ?_
  rintro e w' ⟨rfl, rfl⟩
  go_wp2_with (fail)
  refine (N2.out _).mono ?_
  rintro e w' ⟨rfl, rfl⟩
  go_wp2_with (fail)
  go_ret
  exact ⟨rfl, rfl⟩
set_option maxRecDepth 100000 in
set_option maxHeartbeats 1000000 in
theorem tcmp_ff (fa fb : Nat) (k : Int) (ha : fa < 18446744073709551616) (hb : fb < 18446744073709551616) (na : ¬ nanW fa) (nb : ¬ nanW fb) (s : Bool) (A : Option Addr) (n c : Nat) (s' : Bool) (A' : Option Addr) (n' c' : Nat) (w : World)
    (hC : ∀ W, Calls Tryz.prog 106 #[.float .f64 fa, .float .f64 fb] W fun e w' => e = .returned (.int .i64 k) ∧ W = w') :
    Calls Tryz.prog 42 #[numA true fa s A n c, numA true fb s' A' n' c'] w fun e w' => e = .returned (.tuple #[.int .i64 k, .bool true]) ∧ Below w.heap.size w w' := by
  obtain ⟨W0, hW0, hb0, hO⟩ := two_num w true fa s A n c true fb s' A' n' c'
  obtain ⟨p0, p1, p2, p3, -, -, -, -, pl⟩ := hO.nx0.facts
  obtain ⟨q0, q1, q2, q3, -, -, -, -, ql⟩ := hO.tl.nx0.facts
  have HB0 := Lib.hid hb0
  have HW0 := Lib.hid hW0
  have h1 := fun W => isNaN_any fa W ha
  have h2 := fun W => isNaN_any fb W hb
  rw [decide_eq_false na] at h1
  rw [decide_eq_false nb] at h2
  have N1 := Lib.hid h1
  have N2 := Lib.hid h2
  have C1 := Lib.hid hC
  clear hb0 hO hC hW0 h1 h2 na nb
  go_enter Tryz.func42, Tryz.ntmps42
  go_wp2_with (fail)
  rw [HW0.out]
  refine (N1.out _).mono ?_
  rintro e w' ⟨rfl, rfl⟩
  go_wp2_with (fail)
  refine (N2.out _).mono ?_
  rintro e w' ⟨rfl, rfl⟩
  go_wp2_with (fail)
  refine (C1.out _).mono ?_
  rintro e w' ⟨rfl, rfl⟩
  go_wp2_with (fail)
  go_ret2
  exact ⟨rfl, HB0.out⟩
set_option maxRecDepth 100000 in
set_option maxHeartbeats 1000000 in
theorem tcmp_nan (fa fb : Nat) (ha : fa < 18446744073709551616) (hb : fb < 18446744073709551616) (hn : nanW fa ∨ nanW fb) (s : Bool) (A : Option Addr) (n c : Nat) (s' : Bool) (A' : Option Addr) (n' c' : Nat) (w : World) :
    Calls Tryz.prog 42 #[numA true fa s A n c, numA true fb s' A' n' c'] w fun e w' => e = .returned (.tuple #[.int .i64 0, .bool false]) ∧ Below w.heap.size w w' := by
  obtain ⟨W0, hW0, hb0, hO⟩ := two_num w true fa s A n c true fb s' A' n' c'
  obtain ⟨p0, p1, p2, p3, -, -, -, -, pl⟩ := hO.nx0.facts
  obtain ⟨q0, q1, q2, q3, -, -, -, -, ql⟩ := hO.tl.nx0.facts
  have HB0 := Lib.hid hb0
  have HW0 := Lib.hid hW0
  have h1 := fun W => isNaN_any fa W ha
  have h2 := fun W => isNaN_any fb W hb
  by_cases na : nanW fa
  · rw [decide_eq_true na] at h1
    have N1 := Lib.hid h1
    clear hb0 hO hW0 h1 h2 na hn
    go_enter Tryz.func42, Tryz.ntmps42
    go_wp2_with (fail)
    rw [HW0.out]
    refine (N1.out _).mono ?_
    rintro e w' ⟨rfl, rfl⟩
    go_wp2_with (fail)
    go_ret2
    exact ⟨rfl, HB0.out⟩
  · rw [decide_eq_false na] at h1
    rw [decide_eq_true (hn.resolve_left na)] at h2
    have N1 := Lib.hid h1
    have N2 := Lib.hid h2
    clear hb0 hO hW0 h1 h2 na hn
    go_enter Tryz.func42, Tryz.ntmps42
    go_wp2_with (fail)
    rw [HW0.out]
    refine (N1.out _).mono ?_
    rintro e w' ⟨rfl, rfl⟩
    go_wp2_with (fail)
    refine (N2.out _).mono ?_
    rintro e w' ⟨rfl, rfl⟩
    go_wp2_with (fail)
    go_ret2
    exact ⟨rfl, HB0.out⟩
set_option maxRecDepth 100000 in
set_option maxHeartbeats 1000000 in
theorem rtcmp_lt (fa fb : Nat) (s : Bool) (A : Option Addr) (n c : Nat) (s' : Bool) (A' : Option Addr) (n' c' : Nat) (w : World) (ho : FloatKind.f64.format.order fa fb = some .lt) :
    Calls Tryz.prog 43 #[numA true fa s A n c, numA true fb s' A' n' c'] w fun e w' => e = .returned (.tuple #[.int .i64 (-1), .bool true]) ∧ Below w.heap.size w w' := by
  obtain ⟨W0, hW0, hb0, hO⟩ := two_num w true fa s A n c true fb s' A' n' c'
  obtain ⟨p0, p1, p2, p3, -, -, -, -, pl⟩ := hO.nx0.facts
  obtain ⟨q0, q1, q2, q3, -, -, -, -, ql⟩ := hO.tl.nx0.facts
  have HB0 := Lib.hid hb0
  have HW0 := Lib.hid hW0
  have l1 : (FloatKind.f64.format.order fa fb == some .lt) = true := by rw [ho]; rfl
  have l2 : (FloatKind.f64.format.order fa fb == some .gt) = false := by rw [ho]; rfl
  have l3 : (FloatKind.f64.format.order fa fb == some .eq) = false := by rw [ho]; rfl
  subst hW0
  clear hb0 hO ho
  go_enter Tryz.func43, Tryz.ntmps43
  go_wp2_with (fail)
  go_ret2
  exact ⟨rfl, HB0.out⟩
set_option maxRecDepth 100000 in
set_option maxHeartbeats 1000000 in
theorem rtcmp_gt (fa fb : Nat) (s : Bool) (A : Option Addr) (n c : Nat) (s' : Bool) (A' : Option Addr) (n' c' : Nat) (w : World) (ho : FloatKind.f64.format.order fa fb = some .gt) :
    Calls Tryz.prog 43 #[numA true fa s A n c, numA true fb s' A' n' c'] w fun e w' => e = .returned (.tuple #[.int .i64 1, .bool true]) ∧ Below w.heap.size w w' := by
  obtain ⟨W0, hW0, hb0, hO⟩ := two_num w true fa s A n c true fb s' A' n' c'
  obtain ⟨p0, p1, p2, p3, -, -, -, -, pl⟩ := hO.nx0.facts
  obtain ⟨q0, q1, q2, q3, -, -, -, -, ql⟩ := hO.tl.nx0.facts
  have HB0 := Lib.hid hb0
  have HW0 := Lib.hid hW0
  have l1 : (FloatKind.f64.format.order fa fb == some .lt) = false := by rw [ho]; rfl
  have l2 : (FloatKind.f64.format.order fa fb == some .gt) = true := by rw [ho]; rfl
  have l3 : (FloatKind.f64.format.order fa fb == some .eq) = false := by rw [ho]; rfl
  subst hW0
  clear hb0 hO ho
  go_enter Tryz.func43, Tryz.ntmps43
  go_wp2_with (fail)
  go_ret2
  exact ⟨rfl, HB0.out⟩
set_option maxRecDepth 100000 in
set_option maxHeartbeats 1000000 in
theorem rtcmp_eq (fa fb : Nat) (s : Bool) (A : Option Addr) (n c : Nat) (s' : Bool) (A' : Option Addr) (n' c' : Nat) (w : World) (ho : FloatKind.f64.format.order fa fb = some .eq) :
    Calls Tryz.prog 43 #[numA true fa s A n c, numA true fb s' A' n' c'] w fun e w' => e = .returned (.tuple #[.int .i64 0, .bool true]) ∧ Below w.heap.size w w' := by
  obtain ⟨W0, hW0, hb0, hO⟩ := two_num w true fa s A n c true fb s' A' n' c'
  obtain ⟨p0, p1, p2, p3, -, -, -, -, pl⟩ := hO.nx0.facts
  obtain ⟨q0, q1, q2, q3, -, -, -, -, ql⟩ := hO.tl.nx0.facts
  have HB0 := Lib.hid hb0
  have HW0 := Lib.hid hW0
  have l1 : (FloatKind.f64.format.order fa fb == some .lt) = false := by rw [ho]; rfl
  have l2 : (FloatKind.f64.format.order fa fb == some .gt) = false := by rw [ho]; rfl
  have l3 : (FloatKind.f64.format.order fa fb == some .eq) = true := by rw [ho]; rfl
  subst hW0
  clear hb0 hO ho
  go_enter Tryz.func43, Tryz.ntmps43
  go_wp2_with (fail)
  go_quiet (fail)
  go_wp2_with (fail)
  go_ret2
  exact ⟨rfl, below_drewN HB0.out _⟩
set_option maxRecDepth 100000 in
set_option maxHeartbeats 1000000 in
theorem rtcmp_none (fa fb : Nat) (s : Bool) (A : Option Addr) (n c : Nat) (s' : Bool) (A' : Option Addr) (n' c' : Nat) (w : World) (ho : FloatKind.f64.format.order fa fb = none) :
    Calls Tryz.prog 43 #[numA true fa s A n c, numA true fb s' A' n' c'] w fun e w' => e = .returned (.tuple #[.int .i64 0, .bool false]) ∧ Below w.heap.size w w' := by
  obtain ⟨W0, hW0, hb0, hO⟩ := two_num w true fa s A n c true fb s' A' n' c'
  obtain ⟨p0, p1, p2, p3, -, -, -, -, pl⟩ := hO.nx0.facts
  obtain ⟨q0, q1, q2, q3, -, -, -, -, ql⟩ := hO.tl.nx0.facts
  have HB0 := Lib.hid hb0
  have HW0 := Lib.hid hW0
  have l1 : (FloatKind.f64.format.order fa fb == some .lt) = false := by rw [ho]; rfl
  have l2 : (FloatKind.f64.format.order fa fb == some .gt) = false := by rw [ho]; rfl
  have l3 : (FloatKind.f64.format.order fa fb == some .eq) = false := by rw [ho]; rfl
  subst hW0
  clear hb0 hO ho
  go_enter Tryz.func43, Tryz.ntmps43
  go_wp2_with (fail)
  go_quiet (fail)
  go_wp2_with (fail)
  go_ret2
  exact ⟨rfl, below_drewN HB0.out _⟩
set_option maxRecDepth 100000 in
set_option maxHeartbeats 1000000 in
theorem tsame_ff (f f' : Nat) (s : Bool) (A : Option Addr) (n c : Nat) (s' : Bool) (A' : Option Addr) (n' c' : Nat) (w : World)
    (b : Bool) (hC : ∀ W, Calls Tryz.prog 17 #[.float .f64 f, .float .f64 f'] W fun e w' => e = .returned (.bool b) ∧ W = w') :
    Calls Tryz.prog 44 #[numA true f s A n c, numA true f' s' A' n' c'] w fun e w' => e = .returned (.bool b) ∧ Below w.heap.size w w' := by
  obtain ⟨W0, hW0, hb0, hO⟩ := two_num w true f s A n c true f' s' A' n' c'
  have HB0 := Lib.hid hb0
  have HW0 := Lib.hid hW0
  have C1 := Lib.hid ((hC W0).mono fun e w' ⟨h1, h2⟩ => (show e = Ending.returned (.bool b) ∧ Below W0.heap.size W0 w' from ⟨h1, h2 ▸ Below.refl _ _⟩))
  clear hb0 hO hW0 hC
  go_enter Tryz.func44, Tryz.ntmps44
  go_wp2_with (fail)
  rw [HW0.out]
  refine C1.out.mono ?_
  rintro e w1 ⟨rfl, hb1⟩
  go_wp2_with (fail)
  go_ret
  exact ⟨rfl, bel_trans (B := w.heap.size) HB0.out hb1⟩
set_option maxRecDepth 100000 in
set_option maxHeartbeats 1000000 in
theorem tsame_ii (f f' : Nat) (s : Bool) (A : Option Addr) (n c : Nat) (s' : Bool) (A' : Option Addr) (n' c' : Nat) (w : World)
    (b : Bool) (hC : ∀ W, Below w.heap.size w W → Calls Tryz.prog 107 #[.agg #[.bool s, .slice A n c], .agg #[.bool s', .slice A' n' c']] W fun e w' => e = .returned (.bool b) ∧ Below W.heap.size W w') :
    Calls Tryz.prog 44 #[numA false f s A n c, numA false f' s' A' n' c'] w fun e w' => e = .returned (.bool b) ∧ Below w.heap.size w w' := by
  obtain ⟨W0, hW0, hb0, hO⟩ := two_num w false f s A n c false f' s' A' n' c'
  have HB0 := Lib.hid hb0
  have HW0 := Lib.hid hW0
  have C1 := Lib.hid (hC W0 hb0)
  clear hb0 hO hW0 hC
  go_enter Tryz.func44, Tryz.ntmps44
  go_wp2_with (fail)
  rw [HW0.out]
  refine C1.out.mono ?_
  rintro e w1 ⟨rfl, hb1⟩
  go_wp2_with (fail)
  go_ret
  exact ⟨rfl, bel_trans (B := w.heap.size) HB0.out hb1⟩
set_option maxRecDepth 100000 in
set_option maxHeartbeats 1000000 in
theorem tsame_if (f f' : Nat) (s : Bool) (A : Option Addr) (n c : Nat) (s' : Bool) (A' : Option Addr) (n' c' : Nat) (w : World) :
    Calls Tryz.prog 44 #[numA false f s A n c, numA true f' s' A' n' c'] w fun e w' => e = .returned (.bool false) ∧ Below w.heap.size w w' := by
  obtain ⟨W0, hW0, hb0, hO⟩ := two_num w false f s A n c true f' s' A' n' c'
  have HB0 := Lib.hid hb0
  have HW0 := Lib.hid hW0
  obtain ⟨p0, p1, p2, p3, -, -, -, -, pl⟩ := hO.nx0.facts
  obtain ⟨q0, q1, q2, q3, -, -, -, -, ql⟩ := hO.tl.nx0.facts
  subst hW0
  clear hb0 hO
  go_enter Tryz.func44, Tryz.ntmps44
  go_wp2_with (fail)
  go_ret
  exact ⟨rfl, HB0.out⟩
set_option maxRecDepth 100000 in
set_option maxHeartbeats 1000000 in
theorem tsame_fi (f f' : Nat) (s : Bool) (A : Option Addr) (n c : Nat) (s' : Bool) (A' : Option Addr) (n' c' : Nat) (w : World) :
    Calls Tryz.prog 44 #[numA true f s A n c, numA false f' s' A' n' c'] w fun e w' => e = .returned (.bool false) ∧ Below w.heap.size w w' := by
  obtain ⟨W0, hW0, hb0, hO⟩ := two_num w true f s A n c false f' s' A' n' c'
  have HB0 := Lib.hid hb0
  have HW0 := Lib.hid hW0
  obtain ⟨p0, p1, p2, p3, -, -, -, -, pl⟩ := hO.nx0.facts
  obtain ⟨q0, q1, q2, q3, -, -, -, -, ql⟩ := hO.tl.nx0.facts
  subst hW0
  clear hb0 hO
  go_enter Tryz.func44, Tryz.ntmps44
  go_wp2_with (fail)
  go_ret
  exact ⟨rfl, HB0.out⟩
set_option maxRecDepth 100000 in
set_option maxHeartbeats 1000000 in
theorem rtsame_ff (f f' : Nat) (s : Bool) (A : Option Addr) (n c : Nat) (s' : Bool) (A' : Option Addr) (n' c' : Nat) (w : World)
    (b : Bool) (hC : ∀ W, Calls Tryz.prog 19 #[.float .f64 f, .float .f64 f'] W fun e w' => e = .returned (.bool b) ∧ W = w') :
    Calls Tryz.prog 41 #[numA true f s A n c, numA true f' s' A' n' c'] w fun e w' => e = .returned (.bool b) ∧ Below w.heap.size w w' := by
  obtain ⟨W0, hW0, hb0, hO⟩ := two_num w true f s A n c true f' s' A' n' c'
  have HB0 := Lib.hid hb0
  have HW0 := Lib.hid hW0
  have C1 := Lib.hid ((hC W0).mono fun e w' ⟨h1, h2⟩ => (show e = Ending.returned (.bool b) ∧ Below W0.heap.size W0 w' from ⟨h1, h2 ▸ Below.refl _ _⟩))
  clear hb0 hO hW0 hC
  go_enter Tryz.func41, Tryz.ntmps41
  go_wp2_with (fail)
  rw [HW0.out]
  refine C1.out.mono ?_
  rintro e w1 ⟨rfl, hb1⟩
  go_wp2_with (fail)
  go_ret
  exact ⟨rfl, bel_trans (B := w.heap.size) HB0.out hb1⟩
set_option maxRecDepth 100000 in
set_option maxHeartbeats 1000000 in
theorem rtsame_ii (f f' : Nat) (s : Bool) (A : Option Addr) (n c : Nat) (s' : Bool) (A' : Option Addr) (n' c' : Nat) (w : World)
    (b : Bool) (hC : ∀ W, Below w.heap.size w W → Calls Tryz.prog 29 #[.agg #[.bool s, .slice A n c], .agg #[.bool s', .slice A' n' c']] W fun e w' => e = .returned (.bool b) ∧ Below W.heap.size W w') :
    Calls Tryz.prog 41 #[numA false f s A n c, numA false f' s' A' n' c'] w fun e w' => e = .returned (.bool b) ∧ Below w.heap.size w w' := by
  obtain ⟨W0, hW0, hb0, hO⟩ := two_num w false f s A n c false f' s' A' n' c'
  have HB0 := Lib.hid hb0
  have HW0 := Lib.hid hW0
  have C1 := Lib.hid (hC W0 hb0)
  clear hb0 hO hW0 hC
  go_enter Tryz.func41, Tryz.ntmps41
  go_wp2_with (fail)
  rw [HW0.out]
  refine C1.out.mono ?_
  rintro e w1 ⟨rfl, hb1⟩
  go_wp2_with (fail)
  go_ret
  exact ⟨rfl, bel_trans (B := w.heap.size) HB0.out hb1⟩
set_option maxRecDepth 100000 in
set_option maxHeartbeats 1000000 in
theorem rtsame_if (f f' : Nat) (s : Bool) (A : Option Addr) (n c : Nat) (s' : Bool) (A' : Option Addr) (n' c' : Nat) (w : World) :
    Calls Tryz.prog 41 #[numA false f s A n c, numA true f' s' A' n' c'] w fun e w' => e = .returned (.bool false) ∧ Below w.heap.size w w' := by
  obtain ⟨W0, hW0, hb0, hO⟩ := two_num w false f s A n c true f' s' A' n' c'
  have HB0 := Lib.hid hb0
  have HW0 := Lib.hid hW0
  obtain ⟨p0, p1, p2, p3, -, -, -, -, pl⟩ := hO.nx0.facts
  obtain ⟨q0, q1, q2, q3, -, -, -, -, ql⟩ := hO.tl.nx0.facts
  subst hW0
  clear hb0 hO
  go_enter Tryz.func41, Tryz.ntmps41
  go_wp2_with (fail)
  go_ret
  exact ⟨rfl, HB0.out⟩
set_option maxRecDepth 100000 in
set_option maxHeartbeats 1000000 in
theorem rtsame_fi (f f' : Nat) (s : Bool) (A : Option Addr) (n c : Nat) (s' : Bool) (A' : Option Addr) (n' c' : Nat) (w : World) :
    Calls Tryz.prog 41 #[numA true f s A n c, numA false f' s' A' n' c'] w fun e w' => e = .returned (.bool false) ∧ Below w.heap.size w w' := by
  obtain ⟨W0, hW0, hb0, hO⟩ := two_num w true f s A n c false f' s' A' n' c'
  have HB0 := Lib.hid hb0
  have HW0 := Lib.hid hW0
  obtain ⟨p0, p1, p2, p3, -, -, -, -, pl⟩ := hO.nx0.facts
  obtain ⟨q0, q1, q2, q3, -, -, -, -, ql⟩ := hO.tl.nx0.facts
  subst hW0
  clear hb0 hO
  go_enter Tryz.func41, Tryz.ntmps41
  go_wp2_with (fail)
  go_ret
  exact ⟨rfl, HB0.out⟩
set_option maxRecDepth 100000 in
set_option maxHeartbeats 1000000 in
theorem rtint_any (z : Int) (h1 : -9223372036854775808 ≤ z) (h2 : z ≤ 9223372036854775807) (w : World) :
    Calls Tryz.prog 45 #[.int .i64 z] w (RetN w z) := by
  have hb0 : Below w.heap.size w (w.alloc (.cells #[.bool false, .float .f64 0, .bool false, .slice none 0 0] 51)) := (Below.refl _ w).alloc (Nat.le_refl _) _
  have Y0 := Lib.hid (Nx.new w false 0 false none 0 0)
  have HB0 := Lib.hid hb0
  have E1 := Lib.hid fun W => rof2c_int z h1 h2 W
  clear hb0
  go_enter Tryz.func45, Tryz.ntmps45
  go_wp2_with (fail)
  refine (E1.out _).mono ?_
  rintro e w1 ⟨s1, A1, n1, c1, rfl, hv1, hb1⟩
  have Y2 := Y0.out.below hb1
  have hbk := bel_trans (B := w.heap.size) HB0.out hb1
  obtain ⟨W, hW, ZR, hbW, hvW, -⟩ := stored_num Y2 hbk (by omega) false 0 s1 A1 n1 c1
  obtain ⟨z0, z1, z2, z3, -, -, -, -, zl⟩ := ZR.facts
  obtain ⟨y0, y1, y2, y3, y4, y5, y6, y7, yl⟩ := Y2.facts
  have HBW := Lib.hid hbW
  have HVW := Lib.hid (hvW _ _ hv1)
  clear hb1 hbk hbW hvW ZR Y2 hv1
  go_wp2_with (fail)
  first | rw [hW] | skip
  refine bodyPost_ret (v := .agg #[.bool false, .float .f64 0, .bool s1, .slice A1 n1 c1]) (by simp [results, Tryz.results45, go_sem, z0, z1, z2, z3]) rfl ?_
  exact ⟨s1, A1, n1, c1, rfl, HVW.out, HBW.out⟩
set_option maxRecDepth 100000 in
set_option maxHeartbeats 1000000 in
theorem rtflo_any (f : Nat) (w : World) :
    Calls Tryz.prog 46 #[.float .f64 f] w fun e w' => e = .returned (numA true f false none 0 0) ∧ Below w.heap.size w w' := by
  go_enter Tryz.func46, Tryz.ntmps46
  go_wp2_with (fail)
  refine bodyPost_ret (v := numA true f false none 0 0) (by simp [results, Tryz.results46, go_sem]) rfl ?_
  exact ⟨rfl, (Below.refl _ w).alloc (Nat.le_refl _) _⟩

end LM
end Go.Proofs.YtpaefbojilnnnaaGreatDoor
